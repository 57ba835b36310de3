import Derived.Test.YthgilhebnlglkaaGreatDoorKDic
import Derived.StillTailTactics
set_option linter.all false
set_option maxHeartbeats 0
set_option maxRecDepth 1000000
open Go.Proofs.Tryz
namespace Go.Proofs.YthgilhebnlglkaaGreatDoor
namespace H
open Go Go.RowKit M C
theorem lP(A:Option Addr)(n c:Nat)(l:Nat->Nat)(f:Nat)(W:World)(V:May l n)(H:rS W A n (rc l n) l)(h1:1<=f)(hf:f<=15):
 Calls prog 313 #[.slice A n c,.int .i64 f] W λe w'=>e=.returned (.map (some W.heap.size))/\
  ∃N D,w'.ownsMap prog 406 (plainElem prog 3) W.heap.size N D/\N<=n+1/\Dic D zi (λb s=>sz l n f b s n)/\Below W.heap.size W w':=by
 have a4:=V.1;obtain⟨HH,HM⟩:=qh2 H V;have hn:n<=9223372036854775807:=(by omega);have U:= @run_makeMap prog;have E:=World.ownsMap_made W prog 406 (plainElem (H:=Value) prog 3);obtain⟨w1,D1,F,o1,d1,P⟩:=DR E (Dic.empty zi) (b:=0) (s:=0) (by omega) (by omega) (by decide) f (by omega);have B:(Instr.mapUpdate 403 (.map (some W.heap.size)) (.agg #[.int .u64 0,.int .i64 0]) (.int .i64 f)).run prog (W.alloc (.map #[] 0))=.ok () w1:=F;have p:=qH o1;have u:=qH (d1.congr (g:=λb s=>sz l n f b s 0) (λb s=>by simp only[sz]));have a:=qH (((Below.refl W.heap.size W).alloc qR (.map #[] 0)).grown P (by simp) (λj hj=>by cases hj;exact qR));clear H V F o1 d1 P E;go_enter func313,ntmps313;go_wp2_with fail;clear U B
 go_loopw [15] (λi wr=> ∃k N:Nat,∃D,k<=n/\i=.int .i64 k/\wr.ownsMap prog 406 (plainElem prog 3) W.heap.size N D/\N<=k+1/\Dic D zi (λb s=>sz l n f b s k)/\Below W.heap.size W wr) (λi _=>n - (intOf i).toNat)
 case atStart=>exact⟨0,1,D1,qZ,rfl,p.o,qR,u.o,a.o⟩
 case round=>
  clear p u a;obtain⟨k,N,D,a7,rfl,E,hN,hd,hb⟩:=hrel;obtain⟨p,u,a⟩:=qh3 E hd hb;clear E hd hb;by_cases m:k<n
  · obtain⟨b,o,rfl,v,S⟩:=HH.o (by omega)
    have J:=HM.o.2 k m;have P:=(a.o.cell v).trans (S k m).1;have g2:=(a.o.cell v).trans (S k m).2;have HA:=qH (λw=>ga l n f k w J hf);have a1:=wG l n f k;have a3:2^f<=2^15:=Ak (by omega) hf;have G:=aF l n f k;obtain⟨x,hx⟩:∃x,rc l n k=x:=⟨_,rfl⟩
    obtain⟨z,Q⟩:∃z,l k=z:=⟨_,rfl⟩
    obtain⟨ab,Z⟩:∃ab,ahb l n f k=ab:=⟨_,rfl⟩
    obtain⟨ag,e2⟩:∃ag,ahs l f k=ag:=⟨_,rfl⟩
    rw[hx] at P;rw[Q] at g2 J;rw[hx,Q,Z,e2] at HA;rw[Z] at a1;have a2:ag<=15/\(ag<=z\/ag=0):=(by rw[e2,Q] at G;omega);have a8:((k:Int)).toNat=k:=(by omega);clear G S;go_wp2_with fail;refine(HA.o _).mono ?_;rintro e K ⟨rfl,b2⟩;have C:=p.o.lt;have cc:=((R2.new wr 216 (.int .u32 x) (.int .u8 z)).below b2 (R2.lt (R2.new wr 216 (.int .u32 x) (.int .u8 z))));have RR:=R2.new K 406 (.int .u64 ab) (.int .i64 ag);have B2:=qH (((Below.refl wr.heap.size wr).alloc qR (.cells #[.int .u32 x,.int .u8 z] 216)).trans (b2.mono (by simp)));have B3:=qH (B2.o.alloc B2.o.size (.cells #[.int .u64 ab,.int .i64 ag] 406));have O3:=qH (aT p.o B3.o C);have c1:=(cc.alloc (.cells #[.int .u64 ab,.int .i64 ag] 406)).drew.at1;have r0:=RR.drew.at0;have r1:=RR.drew.at1;have h:=Li (w:=(K.alloc (.cells #[.int .u64 ab,.int .i64 ag] 406)).drew) O3.o.drew u.o (b:=ab) (s:=ag) (by omega) (by omega);obtain⟨y,r⟩:∃y,(sz l n f ab ag k).getD 0=y:=⟨_,rfl⟩
    rw[r] at h;obtain⟨d,hdd⟩:∃d,z - ag=d:=⟨_,rfl⟩
    have a5:(z:Int) - (ag:Int)=(d:Int):=(by omega);obtain⟨M,hM⟩:∃M,max y d=M:=⟨_,rfl⟩
    have a6:y<=15:=by
     cases q:sz l n f ab ag k with
     |none=>rw[q] at r;simp at r;omega
     |some m'=>rw[q] at r;have:=sG hf k (λi hi=>HM.o.2 i (by omega)) m' q;simp at r;omega
    have R:(if(y:Int)<(d:Int) then(d:Int) else(y:Int))=(M:Int):=(by split<;>omega);have I:(if y<d then(d:Int) else(y:Int))=(M:Int):=(by split<;>omega);have O:max (y:Int) (d:Int)=(M:Int):=(by omega);have L:max (d:Int) (y:Int)=(M:Int):=(by omega);have X:IntKind.i64.wrap (z:Int)=(z:Int):=IntWalk.i64_in _ ⟨by omega,by omega⟩;have a0:IntKind.i64.wrap (d:Int)=(d:Int):=IntWalk.i64_in _ ⟨by omega,by omega⟩;have B4:=qH (Below.drew B3.o);have T:=qH O3.o.drew;unfold rkey at h;clear b2 cc RR;go_wp2_with fail;refine wp_region_still_tail 12 (by kernel_rfl) (by kernel_rfl) ?_
    change wpStill _ _ (K.alloc (.cells #[.int .u64 ab,.int .i64 ag] 406)).drew (λa'=>wpList _ _ _ _ a' (K.alloc (.cells #[.int .u64 ab,.int .i64 ag] 406)).drew) _ _
    generalize (K.alloc (.cells #[.int .u64 ab,.int .i64 ag] 406)).drew=w4 at c1 r0 r1 h B4 T ⊢;simp only[AY,BX,Ck,BZ]
    repeat still_step
    refine wpStill_nil ?_
    obtain⟨w5,D5,Y,o5,d5,g5⟩:=DR T.o u.o (b:=ab) (s:=ag) (by omega) (by omega) (by unfold maxLen;omega) M (by omega);unfold rkey at Y;have B5:=qH ((a.o.trans (B4.o.mono a.o.size)).grown g5 (by have:=a.o.size;have:=B4.o.size;omega) (λj hj=>by cases hj;exact qR));have O5:=qH o5;have D6:=qH (d5.congr (g:=λb s=>sz l n f b s (k+1)) (λb s=>by
     simp only[sz];rw[Z,e2];by_cases q:b=ab/\s=ag
     · rw[A7 q,A7 ⟨q.1.symm,q.2.symm⟩,q.1,q.2,r,Q,hdd,hM]
     · rw[A0 q,A0 (λk=>q ⟨k.1.symm,k.2.symm⟩)]))
    clear o5 d5 g5 c1 r0 r1 h R I O L X a0 T;go_wp2_with fail;go_roundw
    case rel=>exact⟨k+1,N+1,D5,by omega,by go_num,O5.o,by omega,D6.o,B5.o⟩
    case measure=>simp[intOf];omega
  · obtain rfl:k=n:=by omega
    go_wp2_with fail;go_ret;exact⟨rfl,N,D,p.o,hN,u.o,a.o⟩
def Hrow(w:World)(b n:Nat)(F:Nat->Nat×Nat):Prop:=
 ∃c:Array Value,w.heap[b]? =some (.cells c 410 (0,0))/\c.size=n*2/\∀i,i<n->c[i*2]? =some (.int .u16 (F i).1)/\c[i*2+1]? =some (.int .u8 (F i).2)
section
variable {w w':World} {b n:Nat} {F F':Nat->Nat×Nat}
theorem Hrow.lt(h:Hrow w b n F):b<w.heap.size:=by
 obtain⟨c,a,_⟩:=h;rcases By b w.heap.size with g|g
 · exact g
 · rw[AT g] at a;cases a
theorem Hrow.cell1(h:Hrow w b n F){i:Nat}(hi:i<n):w.cell? ⟨b,i*2,none⟩=some (.int .u16 (F i).1):=by
 obtain⟨c,d,_,a⟩:=h;rw[cell_of_row w b _ c _ _ d];exact(a i hi).1
theorem Hrow.cell2(h:Hrow w b n F){i:Nat}(hi:i<n):w.cell? ⟨b,i*2+1,none⟩=some (.int .u8 (F i).2):=by
 obtain⟨c,d,_,a⟩:=h;rw[cell_of_row w b _ c _ _ d];exact(a i hi).2
theorem Hrow.frozen(h:Hrow w b n F)(i:Nat):w.frozen? ⟨b,i,none⟩=false:=by
 obtain⟨c,a,_⟩:=h;simp[World.frozen?,a]
theorem Hrow.congr(h:Hrow w b n F)(d:∀i,i<n->F i=F' i):Hrow w b n F':=by
 obtain⟨c,e,hs,a⟩:=h;exact⟨c,e,hs,λi hi=>by rw[(a i hi).1,(a i hi).2,d i hi];exact⟨rfl,rfl⟩⟩
theorem Hrow.drew(h:Hrow w b n F):Hrow w.drew b n F:=h
theorem Hrow.below(h:Hrow w b n F){B:Nat}(f:Below B w w')(d:b<B):Hrow w' b n F:=by
 obtain⟨c,a,hs,e⟩:=h;exact⟨c,(f.block b d).trans a,hs,e⟩
theorem Hrow.at'(h:Hrow w b n F)(e:w'.heap[b]? =w.heap[b]?):Hrow w' b n F:=by
 obtain⟨c,a,hs,d⟩:=h;exact⟨c,e.trans a,hs,d⟩
theorem Hrow.set(h:Hrow w b n F)(i x y:Nat):Hrow ((w.setCell ⟨b,i*2,none⟩ (.int .u16 x)).setCell ⟨b,i*2+1,none⟩ (.int .u8 y)) b n (λj=>if j=i then(x,y) else F j):=by
 obtain⟨c,a,hs,k⟩:=h;refine⟨(c.setIfInBounds (i*2) (.int .u16 x)).setIfInBounds (i*2+1) (.int .u8 y),?_,by simp[hs],λj f=> ?_⟩
 · simp[World.setCell,BT,a]
 · obtain⟨d,l⟩:=k j f
   by_cases e:j=i
   · subst e
     have g:j*2<c.size:=(by omega);have m:j*2+1<c.size:=(by omega);constructor
     · rw[Ad,A0 (by omega),Ad,A7 rfl,A7 g];simp
     · rw[Ad,A7 rfl,A7 (by simpa using m)];simp
   · constructor
     · rw[Ad,A0 (by omega),Ad,A0 (by omega),d];simp[e]
     · rw[Ad,A0 (by omega),Ad,A0 (by omega),l];simp[e]
theorem Hrow.made(w:World)(n:Nat):Hrow (w.alloc (.cells (madeCells #[.int .u16 0,.int .u8 0] (n*2)) 410)) w.heap.size n (λ_=>(0,0)):=by
 refine⟨_,heap_alloc_new w _,size_madeCells _ _,λi hi=> ?_⟩;have a:i*2<n*2:=(by omega);have d:i*2+1<n*2:=(by omega);have c:i*2%2=0:=(by omega);have e:(i*2+1)%2=1:=(by omega);constructor
 · simp[madeCells,a,c]
 · simp[madeCells,d,e]
end
theorem zo:(prog.info? 410).map (λi=>(i.zero,i.size,i.bytes))=some (some (.agg #[.int .u16 0,.int .u8 0]),2,4):=by kernel_rfl
theorem yu(w:World)(n:Nat)(h:n<=32768):
 (Instr.makeSlice 407 (.int .i64 (n:Int)) (.int .i64 (n:Int))).run prog w=.ok (.slice (some ⟨w.heap.size,0,none⟩) n n) (w.alloc (.cells (madeCells #[.int .u16 0,.int .u8 0] (n*2)) 410)):=by
 obtain⟨i,d,f,e,g⟩:∃i,prog.info? 410 =some i/\i.zero=some (.agg #[.int .u16 0,.int .u8 0])/\i.size=2/\i.bytes=4:=by
  have hi:=zo;cases c: prog.info? 410 with
  |none=>rw[c] at hi;cases hi
  |some i=>rw[c] at hi;simp at hi;exact⟨i,rfl,hi.1,hi.2.1,hi.2.2⟩
 have a:=run_make (P:= prog) w 407 410 i (.agg #[.int .u16 0,.int .u8 0]) underlying407 d f .i64 .i64 n n (by omega) (CL _) (by rw[g];omega) (by omega);simp only[Au] at a;rw[e] at a;exact a
structure Hp(w:World)(T p m:Nat)(G:Nat->Nat->Nat)(N:Nat)(D:DataW Value)(l:Nat->Nat)(n f k:Nat):Prop where
 c0:w.cell? ⟨p,0,none⟩=some (.int .i64 f)
 c1:w.cell? ⟨p,1,none⟩=some (.map (some m))
 own:w.ownsMap prog 406 rN m N D
 dic:Dic D zh (λb s=>(sz l n f b s n).map λz=>(G b s,2^z))
 rows:∀b s z,sz l n f b s n=some z->Hrow w (G b s) (2^z) (λx=>cv l n f b s x k)
 one:∀b s z b' s' z',sz l n f b s n=some z->sz l n f b' s' n=some z'->G b s=G b' s'->b=b'/\s=s'
 apart:∀b s z,sz l n f b s n=some z->p≠G b s/\m≠G b s/\T<=G b s
section
variable {w w':World} {T p m N n f k:Nat} {G:Nat->Nat->Nat} {D:DataW Value} {l:Nat->Nat}
theorem Hp.below(h:Hp w T p m G N D l n f k)(a:Below w.heap.size w w'):Hp w' T p m G N D l n f k:=
 ⟨(a.cell (qB h.c0)).trans h.c0,(a.cell (qB h.c1)).trans h.c1,aT h.own a h.own.lt,h.dic,λb s z e=>(h.rows b s z e).below a (h.rows b s z e).lt,h.one,h.apart⟩
theorem Hp.congr{k':Nat}(h:Hp w T p m G N D l n f k)(e:∀b s x,cv l n f b s x k=cv l n f b s x k'):Hp w T p m G N D l n f k':=
 ⟨h.c0,h.c1,h.own,h.dic,λb s z q=>(h.rows b s z q).congr (λi _=>e b s i),h.one,h.apart⟩
end
theorem IT{y i st q:Nat}(c:y%st=q)(hi:i%st=q)(j:¬y<i)(r:y<i+st):y=i:=by
 have d:=Nat.div_add_mod y st;have a:=Nat.div_add_mod i st;rw[c] at d;rw[hi] at a;have o:i/st<=y/st:=Nat.div_le_div_right (by omega);have s:y/st<i/st+1:=by
  apply Classical.byContradiction
  intro g;have h:st*(i/st+1)<=st*(y/st):=Dz _ (by omega);rw[BR,Bq] at h;omega
 have e:i/st=y/st:=(by omega);rw[e] at a;omega
theorem cell_more{w:World}{a:Addr}{v:Value}(h:w.cell? a=some v)(o:Obj):(w.alloc o).cell? a=some v:=
 (World.cell?_of_block (w:=w) (Below.heap_alloc w o a.block (qB h))).trans h
theorem cJ{w:World}{a b:Addr}{v:Value}(h:w.cell? a=some v)(c:a.block≠b.block)(u:Value):(w.setCell b u).cell? a=some v:=
 (World.cell?_of_block (w:=w) (Below.heap_setCell w b u a.block c)).trans h
theorem qn(T p m N n f k:Nat)(G:Nat->Nat->Nat)(D:DataW Value)(l:Nat->Nat)(W:World)(hm:May l n)(h1:1<=f)(hf:f<=15)(hk:k<n)(A:l k≠0)(H:Hp W T p m G N D l n f k)(hT:T<=W.heap.size):
 Calls prog 314 #[.pointer (some ⟨p,0,none⟩),.int .i64 k,.agg #[.int .u32 (rc l n k),.int .u8 (l k)]] W λe w'=>e=.returned (.tuple #[])/\Hp w' T p m G N D l n f (k+1)/\Below T W w':=by
 have a1:=hm.2 k hk;have az:=hm.1;have a3:=rc_lt l n k;have am:=iQ (l:=l) (n:=n) (i:=k) a1;have HA:=qH (λw=>ga l n f k w a1 hf);have a7:=aF l n f k;have an:=wG l n f k;have ay:2^f<=2^15:=Ak (by omega) hf;obtain⟨x,hx⟩:∃x,rc l n k=x:=⟨_,rfl⟩
 obtain⟨z,hz⟩:∃z,l k=z:=⟨_,rfl⟩
 obtain⟨ab,e1⟩:∃ab,ahb l n f k=ab:=⟨_,rfl⟩
 obtain⟨ag,S⟩:∃ag,ahs l f k=ag:=⟨_,rfl⟩
 rw[hx,hz,e1,S] at HA;rw[e1] at an;have aw:ag<=15/\ag<=z:=(by rw[S,hz] at a7;omega);obtain⟨mz,I,aq⟩:=sH n hk e1 S;have ah:=sG hf n hm.2 mz I;rw[hx,hz];rw[hz] at aq a1 a3 A;rw[hx] at am a3;have HH:=qH H;have a4:=H.c0;have X:=qH (R2.new W 216 (.int .u32 x) (.int .u8 z));have B1:=qH ((Below.refl W.heap.size W).alloc qR (.cells #[.int .u32 x,.int .u8 z] 216));have a8:(W.alloc (.cells #[.int .u32 x,.int .u8 z] 216)).drew.cell? ⟨p,0,none⟩=some (.int .i64 f):=(B1.o.drew.cell (qB a4)).trans a4;have aE:p<W.heap.size:=qB a4;clear H a7;go_enter func314,ntmps314;go_wp2_with fail;refine Code.wp_mono (Q:=λe a w'=>e=Exit.normal/\∃r,a=(⟨#[Value.pointer (some ⟨p,0,none⟩),Value.int .i64 k,Value.agg #[.int .u32 x,.int .u8 z],undef,undef,Value.pointer (some ⟨W.heap.size,0,none⟩),Value.pointer (some ⟨r,0,none⟩),undef,undef,undef,Value.agg #[.int .u32 x,.int .u8 z],Value.pointer (some ⟨p,0,none⟩),Value.pointer (some ⟨p,0,none⟩),Value.pointer (some ⟨p,0,none⟩),Value.int .i64 f,Value.agg #[.int .u64 ab,.int .i64 ag],undef,undef,undef,undef,undef,undef,undef,undef,undef,undef,undef,undef,undef,undef,undef,undef,undef,undef,undef,undef,undef,undef,undef,undef,undef,undef,undef,undef,undef,undef,undef,undef,undef,undef],[]⟩:Act)/\R2 w' 406 r (.int .u64 ab) (.int .i64 ag)/\W.heap.size<=r/\Below W.heap.size W w'/\R2 w' 216 W.heap.size (.int .u32 x) (.int .u8 z)) ?_ ?_
 rotate_left
 · have q0:=X.o.drew.at0
   have q1:=X.o.drew.at1;refine aW (λw'=>w'.cell? ⟨p,0,none⟩=some (.int .i64 f)/\w'.cell? ⟨W.heap.size,0,none⟩=some (.int .u32 x)/\w'.cell? ⟨W.heap.size,1,none⟩=some (.int .u8 z)) ⟨a8,q0,q1⟩ (λA=> ?_);refine af (i:=0) (d:=some 10) (v:= ?_) rfl rfl (by kernel_rfl) (by kernel_rfl) (by kernel_rfl) (λ_ _ _ h=>by cases h.1) (by rfl) (λw c=> ?_) A ?_;rotate_left;(focus ((try dsimp only at c);go_simp;(try with_reducible rfl)));(try simp only[Act.put,List.setIfInBounds_toArray,List.set_cons_zero,List.set_cons_succ]);refine af (i:=1) (d:=some 11) (v:= ?_) rfl rfl (by kernel_rfl) (by kernel_rfl) (by kernel_rfl) (λ_ _ _ h=>by cases h.1) (by rfl) (λw c=> ?_) A ?_;rotate_left;(focus ((try dsimp only at c);go_simp;(try with_reducible rfl)));(try simp only[Act.put,List.setIfInBounds_toArray,List.set_cons_zero,List.set_cons_succ]);refine af (i:=2) (d:=some 12) (v:= ?_) rfl rfl (by kernel_rfl) (by kernel_rfl) (by kernel_rfl) (λ_ _ _ h=>by cases h.1) (by rfl) (λw c=> ?_) A ?_;rotate_left;(focus ((try dsimp only at c);go_simp;(try with_reducible rfl)));(try simp only[Act.put,List.setIfInBounds_toArray,List.set_cons_zero,List.set_cons_succ]);refine af (i:=3) (d:=some 13) (v:= ?_) rfl rfl (by kernel_rfl) (by kernel_rfl) (by kernel_rfl) (λ_ _ _ h=>by cases h.1) (by rfl) (λw c=> ?_) A ?_;rotate_left;(focus ((try dsimp only at c);go_simp;(try with_reducible rfl)));(try simp only[Act.put,List.setIfInBounds_toArray,List.set_cons_zero,List.set_cons_succ]);refine af (i:=4) (d:=some 14) (v:= ?_) rfl rfl (by kernel_rfl) (by kernel_rfl) (by kernel_rfl) (λ_ _ _ h=>by cases h.1) (by rfl) (λw c=> ?_) A ?_;rotate_left;(focus ((try dsimp only at c);go_simp;(try with_reducible rfl)));(try simp only[Act.put,List.setIfInBounds_toArray,List.set_cons_zero,List.set_cons_succ]);refine wpAnyH_ready (rs:=[5,6]) (by kernel_rfl) (by simp) (AllReadyH.cons rfl (λK C=> ?_) (AllReadyH.cons rfl (λK C=> ?_) AllReadyH.nil))
   · go_simp
     refine(HA.o _).mono ?_;rintro e Y ⟨rfl,M⟩;have u:=X.o.drew.below M X.o.drew.lt;have p2:=(M.cell (qB A.1)).trans A.1;refine C.out _ _ ⟨p2,u.at0,u.at1⟩ (λh1=> ?_);clear C K
     (try simp only[Act.put,List.setIfInBounds_toArray,List.set_cons_zero,List.set_cons_succ])
     refine ar (i:=6) (by kernel_rfl) rfl (λK C=> ?_);go_simp;refine C.out _ _ ⟨cell_more p2 _,(u.alloc _).at0,(u.alloc _).at1⟩ (λh2=> ?_);clear C K
     (try simp only[Act.put,List.setIfInBounds_toArray,List.set_cons_zero,List.set_cons_succ])
     refine ar (i:=7) (by kernel_rfl) rfl (λK C=> ?_);go_simp;refine C.out _ _ ⟨cell_more p2 _,(u.alloc _).at0,(u.alloc _).at1⟩ (λh3=> ?_);clear C K
     (try simp only[Act.put,List.setIfInBounds_toArray,List.set_cons_zero,List.set_cons_succ])
     refine wpAnyH_done (by kernel_rfl) ?_ _;have B2:=B1.o.drew.trans (M.mono B1.o.size);exact⟨rfl,Y.heap.size,rfl,R2.new Y _ _ _,B2.size,B2.alloc B2.size _,u.alloc _⟩
   · go_simp
     have rr:=R2.new (W.alloc (.cells #[.int .u32 x,.int .u8 z] 216)).drew 406 (.int .u64 0) (.int .i64 0);rw[show(W.alloc (.cells #[.int .u32 x,.int .u8 z] 216)).drew.heap.size=W.heap.size+1 by simp[World.drew]] at rr;refine C.out _ _ ⟨cell_more A.1 _,(X.o.drew.alloc _).at0,(X.o.drew.alloc _).at1⟩ (λh1=> ?_);clear C K
     (try simp only[Act.put,List.setIfInBounds_toArray,List.set_cons_zero,List.set_cons_succ])
     refine ar (i:=5) (by kernel_rfl) rfl (λK C=> ?_);go_simp;refine(HA.o _).mono ?_;rintro e Y ⟨rfl,M⟩;have u:=(X.o.drew.alloc _).below M (X.o.drew.alloc _).lt;have P:=rr.below M rr.lt;have p2:=(M.cell (qB h1.1)).trans h1.1;have e0:=P.at0;have e9:=P.at1;have f0:=P.frozen 0;have f9:=P.frozen 1;refine C.out _ _ ⟨p2,u.at0,u.at1⟩ (λh2=> ?_);clear C K
     (try simp only[Act.put,List.setIfInBounds_toArray,List.set_cons_zero,List.set_cons_succ])
     refine ar (i:=7) (by kernel_rfl) rfl (λK C=> ?_);go_simp;have a5:=(u.other (x:=⟨W.heap.size+1,0,none⟩) (by simp) (.int .u64 ab)).other (x:=⟨W.heap.size+1,1,none⟩) (by simp) (.int .i64 ag);refine C.out _ _ ⟨cJ (cJ p2 (by simp;omega) _) (by simp;omega) _,a5.at0,a5.at1⟩ (λh3=> ?_);clear C K
     (try simp only[Act.put,List.setIfInBounds_toArray,List.set_cons_zero,List.set_cons_succ])
     refine wpAnyH_done (by kernel_rfl) ?_ _;have B2:=(B1.o.drew.alloc (by simp[World.drew]) _).trans (M.mono (by simp[World.drew];omega));exact⟨rfl,W.heap.size+1,rfl,P.put _ _,by omega,(B2.setCell (by simp) _).setCell (by simp) _,a5⟩
 rintro e a Y ⟨rfl,r,rfl,RR,V,M,u⟩;go_wp2_with fail;have H2:=HH.o.below M;have p1:Y.drew.cell? ⟨p,1,none⟩=some (.map (some m)):=H2.c1;have O:=GB (w:=Y.drew) H2.own.drew H2.dic (b:=ab) (s:=ag) (by omega) (by omega);rw[I] at O;obtain⟨g,hg⟩:∃g,G ab ag=g:=⟨_,rfl⟩
 obtain⟨Z,hZ⟩:∃Z,2^mz=Z:=⟨_,rfl⟩
 simp only[Option.map_some,slo,slv,rkey] at O;rw[hg,hZ] at O;obtain⟨au,E,ac,ai⟩:=qh4 RR H2 u M;clear H2 M u;refine aW (λw'=>w'.cell? ⟨p,1,none⟩=some (.map (some m))/\w'.cell? ⟨r,0,none⟩=some (.int .u64 ab)/\w'.cell? ⟨r,1,none⟩=some (.int .i64 ag)/\(Instr.lookup 400 (.map (some m)) (.agg #[.int .u64 ab,.int .i64 ag]) false).run prog w'=.ok (.slice (some ⟨g,0,none⟩) Z Z) w') ⟨p1,RR.drew.at0,RR.drew.at1,O⟩ (λA=> ?_)
 first
 |(refine take_no (i:=0) (d:=some 16) rfl rfl (by kernel_rfl) (by kernel_rfl) (by kernel_rfl) (λ_ _ _ h=>h) (by rfl) A ?_;(try simp only[Act.put,List.setIfInBounds_toArray,List.set_cons_zero,List.set_cons_succ]))
 |(refine af (i:=0) (d:=some 16) (v:= ?_) rfl rfl (by kernel_rfl) (by kernel_rfl) (by kernel_rfl) (λ_ _ _ h=>h) (by rfl) (λw c=> ?_) A ?_;rotate_left;(focus ((try dsimp only at c);go_simp;(try with_reducible rfl)));(try simp only[Act.put,List.setIfInBounds_toArray,List.set_cons_zero,List.set_cons_succ]))
 first
 |(refine take_no (i:=1) (d:=some 17) rfl rfl (by kernel_rfl) (by kernel_rfl) (by kernel_rfl) (λ_ _ _ h=>h) (by rfl) A ?_;(try simp only[Act.put,List.setIfInBounds_toArray,List.set_cons_zero,List.set_cons_succ]))
 |(refine af (i:=1) (d:=some 17) (v:= ?_) rfl rfl (by kernel_rfl) (by kernel_rfl) (by kernel_rfl) (λ_ _ _ h=>h) (by rfl) (λw c=> ?_) A ?_;rotate_left;(focus ((try dsimp only at c);go_simp;(try with_reducible rfl)));(try simp only[Act.put,List.setIfInBounds_toArray,List.set_cons_zero,List.set_cons_succ]))
 first
 |(refine take_no (i:=2) (d:=some 18) rfl rfl (by kernel_rfl) (by kernel_rfl) (by kernel_rfl) (λ_ _ _ h=>h) (by rfl) A ?_;(try simp only[Act.put,List.setIfInBounds_toArray,List.set_cons_zero,List.set_cons_succ]))
 |(refine af (i:=2) (d:=some 18) (v:= ?_) rfl rfl (by kernel_rfl) (by kernel_rfl) (by kernel_rfl) (λ_ _ _ h=>h) (by rfl) (λw c=> ?_) A ?_;rotate_left;(focus ((try dsimp only at c);go_simp;(try with_reducible rfl)));(try simp only[Act.put,List.setIfInBounds_toArray,List.set_cons_zero,List.set_cons_succ]))
 first
 |(refine take_no (i:=3) (d:=some 19) rfl rfl (by kernel_rfl) (by kernel_rfl) (by kernel_rfl) (λ_ _ _ h=>h) (by rfl) A ?_;(try simp only[Act.put,List.setIfInBounds_toArray,List.set_cons_zero,List.set_cons_succ]))
 |(refine af (i:=3) (d:=some 19) (v:= ?_) rfl rfl (by kernel_rfl) (by kernel_rfl) (by kernel_rfl) (λ_ _ _ h=>h) (by rfl) (λw c=> ?_) A ?_;rotate_left;(focus ((try dsimp only at c);go_simp;(try with_reducible rfl)));(try simp only[Act.put,List.setIfInBounds_toArray,List.set_cons_zero,List.set_cons_succ]))
 first
 |(refine take_no (i:=4) (d:=some 20) rfl rfl (by kernel_rfl) (by kernel_rfl) (by kernel_rfl) (λ_ _ _ h=>h) (by rfl) A ?_;(try simp only[Act.put,List.setIfInBounds_toArray,List.set_cons_zero,List.set_cons_succ]))
 |(refine af (i:=4) (d:=some 20) (v:= ?_) rfl rfl (by kernel_rfl) (by kernel_rfl) (by kernel_rfl) (λ_ _ _ h=>h) (by rfl) (λw c=> ?_) A ?_;rotate_left;(focus ((try dsimp only at c);go_simp;(try with_reducible rfl)));(try simp only[Act.put,List.setIfInBounds_toArray,List.set_cons_zero,List.set_cons_succ]))
 first
 |(refine take_no (i:=5) (d:=some 21) rfl rfl (by kernel_rfl) (by kernel_rfl) (by kernel_rfl) (λ_ _ _ h=>h) (by rfl) A ?_;(try simp only[Act.put,List.setIfInBounds_toArray,List.set_cons_zero,List.set_cons_succ]))
 |(refine af (i:=5) (d:=some 21) (v:= ?_) rfl rfl (by kernel_rfl) (by kernel_rfl) (by kernel_rfl) (λ_ _ _ h=>h) (by rfl) (λw c=> ?_) A ?_;rotate_left;(focus ((try dsimp only at c);go_simp;(try with_reducible rfl)));(try simp only[Act.put,List.setIfInBounds_toArray,List.set_cons_zero,List.set_cons_succ]))
 first
 |(refine take_no (i:=6) (d:=some 7) rfl rfl (by kernel_rfl) (by kernel_rfl) (by kernel_rfl) (λ_ _ _ h=>h) (by rfl) A ?_;(try simp only[Act.put,List.setIfInBounds_toArray,List.set_cons_zero,List.set_cons_succ]))
 |(refine af (i:=6) (d:=some 7) (v:= ?_) rfl rfl (by kernel_rfl) (by kernel_rfl) (by kernel_rfl) (λ_ _ _ h=>h) (by rfl) (λw c=> ?_) A ?_;rotate_left;(focus ((try dsimp only at c);go_simp;(try with_reducible rfl)));(try simp only[Act.put,List.setIfInBounds_toArray,List.set_cons_zero,List.set_cons_succ]))
 refine wpAnyH_done (by kernel_rfl) ?_ _;have c1:=ac.o.at1;have c0:=ac.o.at0;have r1:=au.o.at1;obtain⟨st,L⟩:∃st,2^(z - ag)=st:=⟨_,rfl⟩
 obtain⟨q,hq⟩:∃q,x/2^ag=q:=⟨_,rfl⟩
 have ax:Z<=32768:=(by rw[<-hZ];exact(Ak (by omega) ah:2^mz<=2^15));have aj:st<=32768:=(by rw[<-L];exact(Ak (by omega) (show z - ag<=15 by omega):2^(z - ag)<=2^15));have aA:1<=st:=(by rw[<-L];exact Dr);have al:q<st:=by
  rw[<-hq,<-L,CZ (AA _),<-AJ,show z - ag+ag=z by omega];exact a3
 have w1:wrap64 (2^(z - ag))=(st:Int):=by
  have:((2:Int)^(z - ag))=(st:Int):=(by rw[<-L];push_cast;rfl);rw[this];exact IntWalk.wrap64_in _ ⟨by omega,by omega⟩
 have w3:(x:Int) /2^ag=(q:Int):=(by rw[<-hq];push_cast;rfl);have aa:=qH (E.o.rows ab ag mz I);rw[hg,hZ] at aa;have R:=E.o.apart ab ag mz I;rw[hg] at R;have aB:g<W.heap.size:=by
  have:=(HH.o.rows ab ag mz I).lt
  rwa [hg] at this
 clear RR A p1 O;go_wp2_with fail;rw[w1];clear r1 c0;obtain⟨ao,HQ⟩:=qh2 L hq;clear L hq w1 w3
 go_loopw [9] (λv wr=> ∃i:Nat,v=.int .i64 i/\i<Z+st/\i%st=q/\Hrow wr g Z (λy=>if y%st=q/\y<i then(k,z) else cv l n f ab ag y k)/\Kept (λj=>j=g) Y wr) (λv _=>Z+st - (intOf v).toNat)
 case atStart=>
  refine⟨q,rfl,by omega,Ar al,aa.o.drew.congr (λi hi=> ?_),(Kept.refl _ Y).drew⟩;rw[A0];rintro⟨a,b⟩;rw[Ar (by omega)] at a;omega
 case round=>
  obtain⟨i,rfl,hi,a2,V,U⟩:=hrel;have cc:wr.cell? ⟨W.heap.size,1,none⟩=some (.int .u8 z):=U.cell c1 (by simp;omega);obtain⟨HR,HK⟩:=qh2 V U;have aG:((i:Int)).toNat=i:=(by omega);by_cases ad:i<Z
  · have aC:=V.frozen (i*2)
    have aD:=V.frozen (i*2+1);have ak:=V.cell1 ad;have av:=V.cell2 ad;obtain⟨o1,a9⟩:∃o1,((if i%st=q/\i<i then(k,z) else cv l n f ab ag i k).1)=o1:=⟨_,rfl⟩
    obtain⟨o2,a6⟩:∃o2,((if i%st=q/\i<i then(k,z) else cv l n f ab ag i k).2)=o2:=⟨_,rfl⟩
    rw[a9] at ak;rw[a6] at av;clear V U a9 a6;go_wp2_with fail;go_roundw
    case rel=>
     refine⟨i+st,by go_num,by omega,by rw[Nat.add_mod_right];exact a2,(HR.o.set i k z).congr (λy hy=> ?_),(HK.o.setCell _ (.inl rfl) _).setCell _ (.inl rfl) _⟩;by_cases e:y=i
     · rw[A7 e,A7 ⟨by rw[e];exact a2,by omega⟩]
     · rw[A0 e]
       by_cases S:y%st=q/\y<i
       · rw[A7 S,A7 ⟨S.1,by omega⟩]
       · rw[A0 S,A0]
         rintro⟨a,b⟩;exact e (IT a a2 (λg=>S ⟨a,g⟩) b)
    case measure=>simp[intOf];omega
  · clear V U
    go_wp2_with fail;go_end0;have C:=HK.o;refine⟨rfl,⟨C.cell E.o.c0 (by simp;exact R.1),C.cell E.o.c1 (by simp;exact R.1),?_,E.o.dic,?_,E.o.one,E.o.apart⟩,?_⟩
    · obtain⟨es,clock,h1,ae⟩:=E.o.own
      exact⟨es,clock,(C.block m E.o.own.lt R.2.1).trans h1,ae⟩
    · intro b s z' J
      have a0:=E.o.rows b s z' J;by_cases e:b=ab/\s=ag
      · obtain⟨rfl,rfl⟩:=e
        rw[I] at J;injection J with J
        subst J;rw[hg,hZ];refine HR.o.congr (λy hy=> ?_);simp only[cv];rw[hx,hz,ao.o,HQ.o];by_cases e3:y%st=q
        · rw[A7 ⟨e3,by omega⟩,A7 ⟨by omega,⟨e1,S⟩,e3⟩]
        · rw[A0 (λh=>e3 h.1),A0 (λh=>e3 h.2.2)]
      · have ap:G b s≠g:=by
         intro h;rw[<-hg] at h;exact e (E.o.one b s z' ab ag mz J I h)
        refine(a0.at' (C.block _ a0.lt ap)).congr (λy hy=> ?_);simp only[cv];rw[A0];rintro⟨_,a,_⟩;exact e ⟨by rw[<-a.1,e1],by rw[<-a.2,S]⟩
    · have hb:=C.below (B:=T) (by have:=ai.o.size;omega) (λj hj=>by rw[hj];exact R.2.2)
      exact(ai.o.mono hT).trans hb
structure Hq(w:World)(T p m:Nat)(G:Nat->Nat->Nat)(N:Nat)(D:DataW Value)(l:Nat->Nat)(n f:Nat)(left:Lit->Bool):Prop where
 c0:w.cell? ⟨p,0,none⟩=some (.int .i64 f)
 c1:w.cell? ⟨p,1,none⟩=some (.map (some m))
 own:w.ownsMap prog 406 rN m N D
 dic:Dic D zh (λb s=>if left (rk b s)=true then none else(sz l n f b s n).map λz=>(G b s,2^z))
 rows:∀b s z,sz l n f b s n=some z->left (rk b s)=false->Hrow w (G b s) (2^z) (λx=>(0,0))
 one:∀b s z b' s' z',sz l n f b s n=some z->sz l n f b' s' n=some z'->left (rk b s)=false->left (rk b' s')=false->G b s=G b' s'->b=b'/\s=s'
 apart:∀b s z,sz l n f b s n=some z->left (rk b s)=false->p≠G b s/\m≠G b s/\T<=G b s
section
variable {w w':World} {T p m N n f k:Nat} {G:Nat->Nat->Nat} {D:DataW Value} {l:Nat->Nat} {left:Lit->Bool}
theorem Hq.below(h:Hq w T p m G N D l n f left)(a:Below w.heap.size w w'):Hq w' T p m G N D l n f left:=
 ⟨(a.cell (qB h.c0)).trans h.c0,(a.cell (qB h.c1)).trans h.c1,aT h.own a h.own.lt,h.dic,λb s z e q=>(h.rows b s z e q).below a (h.rows b s z e q).lt,h.one,h.apart⟩
theorem Hq.done(h:Hq w T p m G N D l n f left)(a:∀d,left d=false):Hp w T p m G N D l n f 0:=
 ⟨h.c0,h.c1,h.own,h.dic.congr (λb s=>by rw[A0 (by rw[a];simp)]),λb s z e=>h.rows b s z e (a _),λb s z b' g c e e'=>h.one b s z b' g c e e' (a _) (a _),λb s z e=>h.apart b s z e (a _)⟩
theorem Hq.step{b s z g:Nat}(h:Hq w T p m G N D l n f left)(P:sz l n f b s n=some z)(hb:b<=18446744073709551615)(hs:s<=9223372036854775807)(E:∀b s z,sz l n f b s n=some z->b<=18446744073709551615/\s<=9223372036854775807)
 {L:DataW Value} (ho:w'.ownsMap prog 406 rN m (N+1) L) (hd:Dic L zh (λb' a=>if b'=b/\a=s then some (g,2^z) else if left (rk b' a)=true then none else(sz l n f b' a n).map λz=>(G b' a,2^z)))
 (K:Kept (λj=>j=m) w w') (W:Hrow w' g (2^z) (λ_=>(0,0))) (Z:w.heap.size<=g) (hT:T<=g) (u:p≠m):
 Hq w' T p m (λb' a=>if b'=b/\a=s then g else G b' a) (N+1) L l n f (λx=>left x&& !x.sameKey (rk b s)):=by
 have i:∀b' a d,sz l n f b' a n=some d->((left (rk b' a)&& !(rk b' a).sameKey (rk b s))=false↔(left (rk b' a)=false\/(b'=b/\a=s))):=by
  intro b' a d e;obtain⟨Y,d2⟩:=E b' a d e;by_cases q:b'=b/\a=s
  · obtain⟨rfl,rfl⟩:=q
    rw[WideAt.sameKey_self (rk_key _ _)];simp
  · have:(rk b' a).sameKey (rk b s)=false:=Maps.sameKey_ne (λk=>q (rk_inj Y d2 hb hs k))
    rw[this];simp[q]
 have v:∀b' a d,sz l n f b' a n=some d->left (rk b' a)=false->G b' a<g:=λb' a d e q=>Ag (h.rows b' a d e q).lt Z
 have R:p<w.heap.size:=qB h.c0;have S:=h.own.lt;refine⟨K.cell h.c0 u,K.cell h.c1 u,ho,hd.congr (λb' a=> ?_),λb' a d e q=> ?_,λB C O y r J H M q1 q2 e=> ?_,λb' a d e q=> ?_⟩
 · by_cases q:b'=b/\a=s
   · rw[A7 q,A0 (by rw[q.1,q.2,WideAt.sameKey_self (rk_key _ _)];simp),q.1,q.2,P]
     simp
   · rw[A0 q]
     cases e:sz l n f b' a n with
     |none=>simp
     |some d=>
      have Q:=i b' a d e;by_cases A:left (rk b' a)=true
      · rw[A7 A,A7]
        apply Classical.byContradiction
        intro c;rcases Q.1 (by simpa using c) with c|c
        · rw[A] at c;cases c
        · exact q c
      · have I:left (rk b' a)=false:=by simpa using A
        rw[A0 A,A0 (by rw[Q.2 (.inl I)];simp)];simp[q]
 · rcases(i b' a d e).1 q with c|c
   · by_cases o:b'=b/\a=s
     · rw[A7 o]
       obtain⟨rfl,rfl⟩:=o;rw[P] at e;injection e with e
       rw[<-e];exact W
     · rw[A0 o]
       have X:=h.apart b' a d e c;exact(h.rows b' a d e c).at' (K.block _ (h.rows b' a d e c).lt (λq=>X.2.1 q.symm))
   · rw[A7 c]
     obtain⟨rfl,rfl⟩:=c;rw[P] at e;injection e with e
     rw[<-e];exact W
 · have V:=(i B C O H).1 q1
   have U:=(i y r J M).1 q2;by_cases c1:B=b/\C=s
   · by_cases o:y=b/\r=s
     · omega
     · rw[A7 c1,A0 o] at e
       have:=v y r J M (U.resolve_right o);omega
   · by_cases o:y=b/\r=s
     · rw[A0 c1,A7 o] at e
       have:=v B C O H (V.resolve_right c1);omega
     · rw[A0 c1,A0 o] at e
       exact h.one B C O y r J H M (V.resolve_right c1) (U.resolve_right o) e
 · by_cases c:b'=b/\a=s
   · rw[A7 c]
     exact⟨by omega,by omega,hT⟩
   · rw[A0 c]
     exact h.apart b' a d e (((i b' a d e).1 q).resolve_right c)
theorem Hq.iter{q:Nat}(h:Hq w T p m G N D l n f left)(u:w.grownBy w' (some q))(t:p≠q)(v:m≠q)(hi:∃a b c d,w.heap[q]? =some (.mapIter a b c d)):Hq w' T p m G N D l n f left:=by
 have g:Kept (λj=>j=q) w w':=(Kept.refl _ w).grown u (λk g=> .inl (by cases g;rfl));refine⟨g.cell h.c0 t,g.cell h.c1 t,h.own.kept u (λe=>v (by cases e;rfl)),h.dic,λb s z e r=> ?_,h.one,h.apart⟩;have i:=h.rows b s z e r;refine i.at' (g.block _ i.lt (λx=> ?_));obtain⟨a,b',c,d,y⟩:=hi;obtain⟨A,o,_⟩:=i;rw[x,y] at o;cases o
theorem lY{H:Type}{P:Program}{k:TypeId}{R:Value->Option (DataW H×List MemPlace)}{w:World}{b r n cnt:Nat}{D:DataW H}{left:Lit->Bool}(h:w.ranges P k R b r n D left cnt):∃a b c d,w.heap[r]? =some (.mapIter a b c d):=by
 obtain⟨j,clock,e,g,c0,_,_,_,_,i,_⟩:=h;exact⟨_,_,_,_,i⟩
theorem lZ{H:Type}{P:Program}{k:TypeId}{R:Value->Option (DataW H×List MemPlace)}{w:World}{b r n cnt:Nat}{D:DataW H}{left:Lit->Bool}(h:w.ranges P k R b r n D left cnt):w.drew.ranges P k R b r n D left cnt:=h
theorem Hq.drew(h:Hq w T p m G N D l n f left):Hq w.drew T p m G N D l n f left:=⟨h.c0,h.c1,h.own,h.dic,h.rows,h.one,h.apart⟩
theorem sI{l:Nat->Nat}{n f:Nat}(hf:f<=15):∀b s z,sz l n f b s n=some z->b<=32768/\s<=15:=λb s z h=>by
 have d:2^f<=2^15:=Ak (by omega) hf;rcases nF n z h with⟨a,c⟩|⟨a,c⟩<;>omega
end
theorem y6{D:DataW Value}{f:Nat->Nat->Option Nat}(i:Dic D zi f){x:Int×Int}{c:Int}{d:Lit}{y:DataW Value×List MemPlace}(u:keyOf prog 406 (.agg #[.int .u64 x.1,.int .i64 x.2])=some d)
 (o:plainElem prog 3 (.int .i64 c)=some y) (a:∀zd,D.atKey d zd=y.1):∃b s z:Nat,x=((b:Int),(s:Int))/\d=rk b s/\f b s=some z/\c=(z:Int):=by
 obtain⟨b,s,z,h,rfl⟩:=i.only d (Maps.has_true_of_atKey a);obtain⟨r,q⟩:=i.dom b s z h;have e:=rowLaw.inj u (rk_some r q);unfold rkey at e;injection e with e
 simp at e;have j:=(i.yes b s z h .nil).symm.trans (a .nil);obtain⟨v,g,rfl,_⟩:=plainElem_int_inv underlying3 o;injection g with _ g
 subst g;simp[zi] at j;exact⟨b,s,z,by cases x;simp at e;rw[e.1,e.2],rfl,h,j.symm⟩
theorem new_ok_any(A:Option Addr)(n c:Nat)(l:Nat->Nat)(f:Nat)(W:World)(hl:∀i,l i<=255)(H:av W .u8 A n (λi=>(l i:Int)))(ht:Tbl l n)(h1:1<=f)(hf:f<=15):
 Calls prog 288 #[.slice A n c,.int .i64 f] W λe w'=> ∃T p m G N D,e=.returned (.tuple #[.pointer (some ⟨p,0,none⟩),.int .i64 0])/\W.heap.size<=p/\Hp w' T p m G N D l n f n/\Below W.heap.size W w':=by
 have S:=ht.fit;have hm:=S.1;have ap:=hm.1;have hn:n<=maxLen:=(by unfold maxLen;omega);have HW:=qH (writes_any A n c l W hn hl H);obtain⟨HT,HM⟩:=qh2 ht hm;have he:erc l n=0/\hH l n=n:=by
  rcases ij (l:=l) (n:=n) with⟨a,_⟩|⟨a,_⟩|⟨_,_,a,b⟩
  · unfold Tbl at ht;omega
  · unfold Tbl at ht;omega
  · exact⟨a,b⟩
 rw[he.1,he.2] at HW;obtain⟨HH,HL⟩:=qh2 H hl;obtain⟨K,Y⟩:∃K,kind l n=K:=⟨_,rfl⟩
 have k3:((K:Int)==3)=false:=by
  rw[qN];unfold Tbl at ht;omega
 have HK:=qH Y;clear he H hl ht hm S;go_enter func288,ntmps288;go_wp2_with fail;refine HW.o.mono ?_;rintro e w1 ⟨A1,c1,rfl,aN,aM,a4,b1,_⟩;obtain⟨B1,C1⟩:=qh2 b1 a4;clear b1 a4;go_wp2_with fail;refine(cE A n c l _ hn HL.o (HH.o.below B1.o)).mono ?_;rintro e u ⟨rfl,b2⟩;rw[HK.o];have B2:=qbt B1 b2;have C2:=qH (C1.o.below b2);clear b2;have aB:= @run_makeMap prog;go_wp2_with fail;clear aB;obtain⟨m,O⟩:∃m,u.heap.size=m:=⟨_,rfl⟩
 obtain⟨p,aq⟩:∃p,m+1=p:=⟨_,rfl⟩
 have o3:((u.alloc (.map #[] 0)).alloc (.cells #[.int .i64 f,.map (some u.heap.size)] 402)).ownsMap prog 406 rN u.heap.size 0 (.map []):=(World.ownsMap_made u prog 406 rN).alloc _;have b3:=((Below.refl u.heap.size u).alloc qR (.map #[] 0)).alloc (by simp) (.cells #[.int .i64 f,.map (some u.heap.size)] 402);have p0:((u.alloc (.map #[] 0)).alloc (.cells #[.int .i64 f,.map (some u.heap.size)] 402)).cell? ⟨u.heap.size+1,0,none⟩=some (.int .i64 f):=(by simp);have L:((u.alloc (.map #[] 0)).alloc (.cells #[.int .i64 f,.map (some u.heap.size)] 402)).cell? ⟨u.heap.size+1,1,none⟩=some (.map (some u.heap.size)):=(by simp);have s3:((u.alloc (.map #[] 0)).alloc (.cells #[.int .i64 f,.map (some u.heap.size)] 402)).heap.size=u.heap.size+2:=(by simp);generalize (u.alloc (.map #[] 0)).alloc (.cells #[.int .i64 f,.map (some u.heap.size)] 402)=w3 at o3 b3 p0 L s3 ⊢;rw[O] at o3 b3 p0 L s3 ⊢;rw[aq] at p0 L ⊢;have C3:=qH (C2.o.below (by rw[O];exact b3));have B3:=qH b3;refine(lP A1 n c1 l f w3 HM.o C3.o h1 hf).mono ?_;rintro e w4 ⟨rfl,Ns,Ds,al,aJ,hds,b4⟩;obtain⟨OS,DS⟩:=qh2 al hds;have B4:=qH (B3.o.trans (b4.mono (by omega)));have aj:m+2<=w4.heap.size:=by have:=b4.size;omega
 have Q4:=qH (show Hq w4 m p m (λ_ _=>0) 0 (.map []) l n f (Maps.has Ds) from⟨(b4.cell (show p<w3.heap.size by omega)).trans p0,(b4.cell (show p<w3.heap.size by omega)).trans L,aT o3 b4 (by omega),
  (Dic.empty zh).congr (λb s=>by
   cases q:sz l n f b s n with
   |none=>simp
   |some z=>rw[A7 (hds.has q)]),λb s z q h=>(by rw[hds.has q] at h;cases h),λb s z b' s' z' q q' h=>(by rw[hds.has q] at h;cases h),λb s z q h=>(by rw[hds.has q] at h;cases h)⟩)
 clear al hds b3 b4 o3 p0 L;generalize aF:w3.heap.size=ms at OS ⊢;go_wp2_with (first|(at_range;refine wpList_range_own _ rfl _ 403 rfl 406 3 rowLaw underlying403 _ ms Ns Ds rfl OS.o ?_;intro w5 R C aA))
 go_frame
 have aD:=OS.o.size_le;have RG:=qH R;have Q5:=qH (Q4.o.below ⟨C.os,C.tape,C.output,C.size,λj hj=>C.block j hj (by simp)⟩);have B5:=qH (B4.o.grown C (by have:=B4.o.size;omega) (λj hj=>by cases hj));clear R C aA;generalize aG:w4.heap.size=ri at RG aj ⊢
 go_loopw [9] (λ_ wr=> ∃left cnt G N D,wr.ranges prog 406 (plainElem prog 3) ms ri Ns Ds left cnt/\N+cnt<=n+1/\Hq wr m p m G N D l n f left/\Below m u wr) (λ_ wr=>wr.rangeLeft ms ri)
 case atStart=>exact⟨_,_,_,_,_,RG.o,by omega,Q5.o,B5.o⟩
 case round=>
  obtain⟨left,cnt,G,N,D,ae,aK,hq,hb⟩:=hrel;obtain⟨a0,Qr,Br⟩:=qh3 ae hq hb;clear ae hq hb;go_wp2_with (first|(at_next;refine wpList_next_ranges _ rfl _ rfl 406 rowLaw (plainElem prog 3) (λx:Int×Int=> .agg #[.int .u64 x.1,.int .i64 x.2]) (Value.int .i64) (λaI kl h=>J4 h) (λv y h=>by obtain⟨c,rfl,_⟩:=plainElem_int_inv underlying3 h;exact⟨c,rfl⟩) ms ri Ns Ds _ _ rfl a0.o ?_ ?_))
  case refine_2=>
   intro x1 x2 c kl yd yp U an Q az hv a7 P V a2 ax ay;obtain⟨b,s,z,J,rfl,M,rfl⟩:=y6 DS.o (x:=(x1,x2)) (y:=(yd,yp)) Q hv a7;obtain rfl:x1=(b:Int):=congrArg Prod.fst J;obtain rfl:x2=(s:Int):=congrArg Prod.snd J;have hb:=(sI hf b s z M).1;have hs:=(sI hf b s z M).2;have ak:=sG hf n HM.o.2 z M;have I6:=qH (lY a0.o);have Q6:=qH (Qr.o.iter a2 (by omega) (by omega) I6.o);have B6:=qH (Br.o.grown a2 (by have:=Br.o.size;omega) (λj hj=>by cases hj;omega));obtain⟨a9,E,HZ⟩:=qh3 P V M;clear J Q az hv a7 P V a2 ax M;go_wp2_with fail;have r0:=(R2.new U 406 (.int .u64 b) (.int .i64 s)).drew.at0;have r1:=(R2.new U 406 (.int .u64 b) (.int .i64 s)).drew.at1;have ad:=qH (a9.o.alloc (.cells #[.int .u64 b,.int .i64 s] 406));have b7:=((Below.refl U.heap.size U).alloc qR (.cells #[.int .u64 b,.int .i64 s] 406));have Q7:=qH (Q6.o.below b7).drew;have B7:=qH ((B6.o.trans (b7.mono (by have:=B6.o.size;omega))).drew);have L:=Q7.o.c1;have ao:m<U.heap.size:=Ag (show m<ri by omega) (Nat.le_of_lt (a9.o.lt));clear b7;generalize aC:U.heap.size=r9 at r0 r1 ao ⊢;generalize U.alloc (.cells #[.int .u64 b,.int .i64 s] 406)=w7 at r0 r1 ad Q7 B7 L ⊢;obtain⟨Z,hZ⟩:∃Z,2^z=Z:=⟨_,rfl⟩
   have ac:Z<=32768:=(by rw[<-hZ];exact(Ak (by omega) ak:2^z<=2^15));have ab:IntKind.i64.wrap (2^z)=(Z:Int):=by
    have:((2:Int)^z)=(Z:Int):=(by rw[<-hZ];push_cast;rfl);rw[this];exact IntWalk.i64_in _ ⟨by omega,by omega⟩
   have ag:p≠m:=(by omega);refine aW (λw'=>w'.cell? ⟨p,1,none⟩=some (.map (some m))/\w'.cell? ⟨r9,0,none⟩=some (.int .u64 b)/\w'.cell? ⟨r9,1,none⟩=some (.int .i64 s)) ⟨L,r0,r1⟩ (λr=> ?_)
   first
   |(refine take_no (i:=0) (d:=some 43) rfl rfl (by kernel_rfl) (by kernel_rfl) (by kernel_rfl) (λ_ _ _ h=>h) (by rfl) r ?_;(try simp only[Act.put,List.setIfInBounds_toArray,List.set_cons_zero,List.set_cons_succ]))
   |(refine af (i:=0) (d:=some 43) (v:= ?_) rfl rfl (by kernel_rfl) (by kernel_rfl) (by kernel_rfl) (λ_ _ _ h=>h) (by rfl) (λw g=> ?_) r ?_;rotate_left;(focus ((try dsimp only at g);go_simp;(try with_reducible rfl)));(try simp only[Act.put,List.setIfInBounds_toArray,List.set_cons_zero,List.set_cons_succ]))
   first
   |(refine take_no (i:=1) (d:=some 44) rfl rfl (by kernel_rfl) (by kernel_rfl) (by kernel_rfl) (λ_ _ _ h=>h) (by rfl) r ?_;(try simp only[Act.put,List.setIfInBounds_toArray,List.set_cons_zero,List.set_cons_succ]))
   |(refine af (i:=1) (d:=some 44) (v:= ?_) rfl rfl (by kernel_rfl) (by kernel_rfl) (by kernel_rfl) (λ_ _ _ h=>h) (by rfl) (λw g=> ?_) r ?_;rotate_left;(focus ((try dsimp only at g);go_simp;(try with_reducible rfl)));(try simp only[Act.put,List.setIfInBounds_toArray,List.set_cons_zero,List.set_cons_succ]))
   first
   |(refine take_no (i:=2) (d:=some 45) rfl rfl (by kernel_rfl) (by kernel_rfl) (by kernel_rfl) (λ_ _ _ h=>h) (by rfl) r ?_;(try simp only[Act.put,List.setIfInBounds_toArray,List.set_cons_zero,List.set_cons_succ]))
   |(refine af (i:=2) (d:=some 45) (v:= ?_) rfl rfl (by kernel_rfl) (by kernel_rfl) (by kernel_rfl) (λ_ _ _ h=>h) (by rfl) (λw g=> ?_) r ?_;rotate_left;(focus ((try dsimp only at g);go_simp;(try with_reducible rfl)));(try simp only[Act.put,List.setIfInBounds_toArray,List.set_cons_zero,List.set_cons_succ]))
   first
   |(refine take_no (i:=3) (d:=some 46) rfl rfl (by kernel_rfl) (by kernel_rfl) (by kernel_rfl) (λ_ _ _ h=>h) (by rfl) r ?_;(try simp only[Act.put,List.setIfInBounds_toArray,List.set_cons_zero,List.set_cons_succ]))
   |(refine af (i:=3) (d:=some 46) (v:= ?_) rfl rfl (by kernel_rfl) (by kernel_rfl) (by kernel_rfl) (λ_ _ _ h=>h) (by rfl) (λw g=> ?_) r ?_;rotate_left;(focus ((try dsimp only at g);go_simp;(try with_reducible rfl)));(try simp only[Act.put,List.setIfInBounds_toArray,List.set_cons_zero,List.set_cons_succ]))
   first
   |(refine take_no (i:=4) (d:=some 47) rfl rfl (by kernel_rfl) (by kernel_rfl) (by kernel_rfl) (λ_ _ _ h=>h) (by rfl) r ?_;(try simp only[Act.put,List.setIfInBounds_toArray,List.set_cons_zero,List.set_cons_succ]))
   |(refine af (i:=4) (d:=some 47) (v:= ?_) rfl rfl (by kernel_rfl) (by kernel_rfl) (by kernel_rfl) (λ_ _ _ h=>h) (by rfl) (λw g=> ?_) r ?_;rotate_left;(focus ((try dsimp only at g);go_simp;(try with_reducible rfl)));(try simp only[Act.put,List.setIfInBounds_toArray,List.set_cons_zero,List.set_cons_succ]))
   first
   |(refine take_no (i:=5) (d:=some 48) rfl rfl (by kernel_rfl) (by kernel_rfl) (by kernel_rfl) (λ_ _ _ h=>h) (by rfl) r ?_;(try simp only[Act.put,List.setIfInBounds_toArray,List.set_cons_zero,List.set_cons_succ]))
   |(refine af (i:=5) (d:=some 48) (v:= ?_) rfl rfl (by kernel_rfl) (by kernel_rfl) (by kernel_rfl) (λ_ _ _ h=>h) (by rfl) (λw g=> ?_) r ?_;rotate_left;(focus ((try dsimp only at g);go_simp;(try with_reducible rfl)));(try simp only[Act.put,List.setIfInBounds_toArray,List.set_cons_zero,List.set_cons_succ]))
   first
   |(refine take_no (i:=6) (d:=some 49) rfl rfl (by kernel_rfl) (by kernel_rfl) (by kernel_rfl) (λ_ _ _ h=>h) (by rfl) r ?_;(try simp only[Act.put,List.setIfInBounds_toArray,List.set_cons_zero,List.set_cons_succ]))
   |(refine af (i:=6) (d:=some 49) (v:= ?_) rfl rfl (by kernel_rfl) (by kernel_rfl) (by kernel_rfl) (λ_ _ _ h=>h) (by rfl) (λw g=> ?_) r ?_;rotate_left;(focus ((try dsimp only at g);go_simp;(try with_reducible rfl)));(try simp only[Act.put,List.setIfInBounds_toArray,List.set_cons_zero,List.set_cons_succ]))
   refine ar (i:=7) (by kernel_rfl) rfl (λK Y=> ?_);rw[A7 (by rfl)]
   try rw[ab]
   refine jD (some 50) rfl 407 (.tmp 49) (.tmp 49) rfl (.int .i64 Z) (.int .i64 Z) _ rfl rfl (yu _ Z ac) ?_
   refine Y.out _ _ ⟨cell_more r.1 _,cell_more r.2.1 _,cell_more r.2.2 _⟩ (λh1=> ?_);clear Y K
   (try simp only[Act.put,List.setIfInBounds_toArray,List.set_cons_zero,List.set_cons_succ])
   refine ar (i:=8) (by kernel_rfl) rfl (λK Y=> ?_);rw[A7 (by rfl)];obtain⟨w9,D9,ah,o9,d9,g9⟩:=IU (Q7.o.own.alloc (.cells (madeCells #[.int .u16 0,.int .u8 0] (Z*2)) 410)) Q7.o.dic (b:=b) (s:=s) (by omega) (by omega) (by unfold maxLen;omega) (w7.drew.heap.size,Z);have K9:=((Kept.refl (λj=>j=m) w7.drew).alloc (.cells (madeCells #[.int .u16 0,.int .u8 0] (Z*2)) 410)).grown g9 (λk hk=> .inl (by cases hk;rfl));have c9:=K9.cell r.1 ag;have d0:=K9.cell r.2.1 (show r9≠m by omega);have d1:=K9.cell r.2.2 (show r9≠m by omega);refine lB none rfl 400 (.tmp 46) (.tmp 47) (.tmp 50) rfl _ _ _ rfl rfl rfl ah ?_
   refine Y.out _ _ ⟨c9,d0,d1⟩ (λh2=> ?_);clear Y K
   (try simp only[Act.put,List.setIfInBounds_toArray,List.set_cons_zero,List.set_cons_succ])
   refine wpAnyH_done (by kernel_rfl) ?_ _;clear r h1 h2 c9 d0 d1 r0 r1 L;have a5:=qH (((lZ ad.o).alloc (.cells (madeCells #[.int .u16 0,.int .u8 0] (Z*2)) 410)).kept g9 (λe=>by cases e;omega) (λe=>by cases e;omega));have X:Hrow w9 w7.drew.heap.size (2^z) (λ_=>(0,0)):=by
    rw[hZ];have:=Hrow.made w7.drew Z;exact this.at' (g9.block _ this.lt (λe=>by cases e;have:=Q7.o.own.lt;omega))
   have Q9:=qH (Q7.o.step HZ.o (by omega) (by omega) (λb s z h=>by have:=sI hf b s z h;omega) o9 (by rw[hZ];exact d9) K9 X qR (by have:=B7.o.size;omega) ag);have B9:=qH (B7.o.trans ((K9.below (B:=m) (by have:=B7.o.size;omega) (λj hj=>by omega))));clear K9 X o9 d9 g9 ah ay ab;go_wp2_with fail;go_roundw
   case rel=>exact⟨_,an,_,N+1,D9,a5.o,by have:=E.o;omega,Q9.o,B9.o⟩
   case measure=>rw[a5.o.left_eq,a0.o.left_eq];exact E.o
  case refine_1=>
   intro au am;have P0:=qH (Qr.o.done am);clear au am;go_wp2_with fail
   go_loopw [53] (λv w'=> ∃k:Nat,k<=n/\v=.int .i64 k/\Hp w' m p m G N D l n f k/\Below m u w') (λv _=>n - (intOf v).toNat)
   case atStart=>exact⟨0,qZ,rfl,P0.o,Br.o⟩
   case round=>
    obtain⟨k,aL,rfl,hp,hb⟩:=hrel;obtain⟨a1,I⟩:=qh2 hp hb;clear hp hb;by_cases E:k<n
    · obtain⟨b,o,rfl,a3,hc⟩:=C2.o (by omega)
      have g1:=(I.o.cell (p:=⟨b,o+k*2,none⟩) (by rw[<-O];exact a3)).trans (hc k E).1;have g2:=(I.o.cell (p:=⟨b,o+k*2+1,none⟩) (by rw[<-O];exact a3)).trans (hc k E).2;have a6:=HM.o.2 k E;have aw:=iQ (l:=l) (n:=n) (i:=k) a6;have aH:((k:Int)).toNat=k:=(by omega);have a8:=qH (λw H r hT=>qn m p m N n f k G D l w HM.o h1 hf E r H hT);obtain⟨x,hx⟩:∃x,rc l n k=x:=⟨_,rfl⟩
      obtain⟨z,M⟩:∃z,l k=z:=⟨_,rfl⟩
      rw[hx] at g1 aw;rw[M] at g2 a6;rw[hx,M] at a8;have aE:=I.o.size;clear hc;by_cases r:z=0
      · subst r
        go_wp2_with fail;go_roundw
        case rel=>
         refine⟨k+1,by omega,by go_num,(a1.o.below (qL)).congr (λb s x=> ?_),I.o.alloc (by omega) _⟩;simp only[cv];rw[A0 (λq=>q.1 M)]
        case measure=>simp[intOf];omega
      · have d0:decide (0<(z:Int))=true:=q9T (by omega)
        have d1:decide (0<z)=true:=q9T (by omega);go_wp2_with fail;refine(a8.o _ (a1.o.below (qL)) r (by simp;omega)).mono ?_;rintro e U ⟨rfl,ai,aa⟩;have P6:=qH ai;have B6:=qH ((I.o.alloc (by omega) _).trans aa);clear ai aa;go_wp2_with fail;go_roundw
        case rel=>exact⟨k+1,by omega,by go_num,P6.o,B6.o⟩
        case measure=>simp[intOf];omega
    · obtain rfl:k=n:=by omega
      go_wp2_with fail;go_ret2;exact⟨m,p,m,G,N,D,rfl,by have:=B2.o.size;omega,a1.o,B2.o.trans (I.o.mono (by have:=B2.o.size;omega))⟩
def nerr(l:Nat->Nat)(n:Nat)(x:Int):Nat:=if ¬(1<=x/\x<=15)\/kind l n=5 then 2 else if kind l n=4\/kind l n=3 then 7 else 0
theorem nerr_ok{l:Nat->Nat}{n:Nat}{x:Int}(h:nerr l n x=0):(1<=x/\x<=15)/\Tbl l n:=by
 unfold nerr at h;have:=uB l n;by_cases a:¬(1<=x/\x<=15)\/kind l n=5
 · rw[A7 a] at h;omega
 · rw[A0 a] at h
   by_cases b:kind l n=4\/kind l n=3
   · rw[A7 b] at h;omega
   · unfold Tbl;omega
theorem j4(A:Option Addr)(n c:Nat)(x:Int)(W:World)(d:¬(1<=x/\x<=15)):
 Calls prog 288 #[.slice A n c,.int .i64 x] W λe w'=>e=.returned (.tuple #[.pointer none,.int .i64 2])/\w'=W:=by
 by_cases h:x<1
 · go_enter func288,ntmps288
   go_wp2_with fail;go_ret2;exact⟨rfl,rfl⟩
 · have a:15<x:=by omega
   go_enter func288,ntmps288;go_wp2_with fail;go_ret2;exact⟨rfl,rfl⟩
theorem dx(A:Option Addr)(n c:Nat)(l:Nat->Nat)(f:Nat)(W:World)(t:n<=maxLen)(h:∀i,l i<=255)(H:av W .u8 A n (λi=>(l i:Int)))(y:1<=f)(hf:f<=15)(E:Nat)(q:erc l n=E)(u:E≠0):
 Calls prog 288 #[.slice A n c,.int .i64 f] W λe w'=>e=.returned (.tuple #[.pointer none,.int .i64 E])/\Below W.heap.size W w':=by
 have d:=qH (writes_any A n c l W t h H);rw[q] at d;have g:hH l n=0:=(by unfold hH;rw[q,A0 u]);rw[g] at d;have B:((E:Int) !=0)=true:=(by rw[AQ];omega);clear g H h;go_enter func288,ntmps288;go_wp2_with fail;refine d.o.mono ?_;rintro e x ⟨z,c1,rfl,s,r,a,j,_⟩;have v:=qH j;clear j a;go_wp2_with fail;go_ret2;exact⟨rfl,v.o⟩
theorem kA(A:Option Addr)(n c:Nat)(l:Nat->Nat)(f:Nat)(W:World)(u:n<=maxLen)(g:∀i,l i<=255)(H:av W .u8 A n (λi=>(l i:Int)))(E:1<=f)(hf:f<=15)(j:kind l n=3):
 Calls prog 288 #[.slice A n c,.int .i64 f] W λe w'=>e=.returned (.tuple #[.pointer none,.int .i64 7])/\Below W.heap.size W w':=by
 have s:=qH (writes_any A n c l W u g H);have q:erc l n=0:=by
  rcases ij (l:=l) (n:=n) with⟨a,_⟩|⟨a,_⟩|⟨_,_,a,b⟩
  · omega
  · omega
  · exact a
 rw[q] at s;obtain⟨v,x,z⟩:=qh3 H g j;clear q H g j;go_enter func288,ntmps288;go_wp2_with fail;refine s.o.mono ?_;rintro e I ⟨J,c1,rfl,C,y,d,r,_⟩;have h:=qH r;clear r d;go_wp2_with fail;refine(cE A n c l _ u x.o (v.o.below h.o)).mono ?_;rintro e K ⟨rfl,t⟩;rw[z.o];have B:=qbt h t;clear t;go_wp2_with fail;go_ret2;exact⟨rfl,B.o⟩
theorem new_no_any(A:Option Addr)(n c:Nat)(l:Nat->Nat)(x:Int)(W:World)(o:n<=maxLen)(g:∀i,l i<=255)(H:av W .u8 A n (λi=>(l i:Int)))(h:nerr l n x≠0):
 Calls prog 288 #[.slice A n c,.int .i64 x] W λe w'=>e=.returned (.tuple #[.pointer none,.int .i64 (nerr l n x:Nat)])/\Below W.heap.size W w':=by
 by_cases q:1<=x/\x<=15
 · obtain⟨f,rfl⟩:=Cr (show 0<=x by omega)
   have d:1<=f:=(by omega);have j:f<=15:=(by omega);rcases ij (l:=l) (n:=n) with⟨a,e,_⟩|⟨a,e,_⟩|⟨a,b,e,_⟩
   · have:nerr l n (f:Int)=2:=by unfold nerr;rw[A7 (.inr a)]
     rw[this];exact dx A n c l f W o g H d j 2 e (by decide)
   · have:nerr l n (f:Int)=7:=by unfold nerr;rw[A0 (by omega),A7 (.inl a)]
     rw[this];exact dx A n c l f W o g H d j 7 e (by decide)
   · by_cases r:kind l n=3
     · have:nerr l n (f:Int)=7:=by unfold nerr;rw[A0 (by omega),A7 (.inr r)]
       rw[this];exact kA A n c l f W o g H d j r
     · exfalso;apply h;unfold nerr;rw[A0 (by omega),A0 (by omega)]
 · have:nerr l n x=2:=by unfold nerr;rw[A7 (.inl q)]
   rw[this];exact(j4 A n c x W q).mono λe w' ⟨a,b⟩=>⟨a,by rw[b];exact Below.refl _ _⟩
theorem mS(X:Nat)(W:World)(c:X<big):
 Calls prog 334 #[.slice none 0 0,.int .u64 X] W λe w'=>e=.returned (.agg #[.int .u16 0,.int .u8 0])/\Below W.heap.size W w':=by
 have a:=qH (R2.new W 410 (.int .u16 0) (.int .u8 0));go_enter func334,ntmps334;go_wp2_with fail;exact bodyPost_ret (v:=.agg #[.int .u16 0,.int .u8 0]) (results_cell_row rfl _ _ W.heap.size _ _ _ _ rfl a.o.row underlying410 rfl eU) rfl ⟨rfl,qL⟩
theorem fQ(g z X:Nat)(F:Nat->Nat×Nat)(W:World)(u:X<big)(I:z<=15)(H:Hrow W g (2^z) F):
 Calls prog 334 #[.slice (some ⟨g,0,none⟩) (2^z) (2^z),.int .u64 X] W λe w'=>e=.returned (.agg #[.int .u16 (F (X%2^z)).1,.int .u8 (F (X%2^z)).2])/\Below W.heap.size W w':=by
 have j:=eY X z u (by omega);have c:X%2^z<2^z:=AR _ (AA z);have d:2^z<=2^15:=Ak (by omega) I;have i:1<=2^z:=Dr;have c1:=H.cell1 c;have h:=H.cell2 c;obtain⟨Z,r⟩:∃Z,2^z=Z:=⟨_,rfl⟩
 have q:((Z:Int) - 1)=(mk z:Int):=(by unfold mk;rw[r];omega);obtain⟨M,x⟩:∃M,mk z=M:=⟨_,rfl⟩
 rw[r] at c1 h j c d i ⊢;rw[x] at j q;generalize E:X%Z=y at c1 h j c ⊢;obtain⟨a,s⟩:∃a,(F y).1=a:=⟨_,rfl⟩
 obtain⟨b,A⟩:∃b,(F y).2=b:=⟨_,rfl⟩
 rw[s] at c1 ⊢;rw[A] at h ⊢;have L:((Z:Int)==0)=false:=(by rw[qN];omega);have C:0<=(M:Int)/\(M:Int)<=32768:=(by omega);have J:((y:Int)).toNat=y:=(by omega);have K:=cell_more c1 (.cells #[.int .u16 0,.int .u8 0] 410);have O:=cell_more h (.cells #[.int .u16 0,.int .u8 0] 410);have B:=qH (R2.new W 410 (.int .u16 a) (.int .u8 b));clear r x E s A H u d;go_enter func334,ntmps334;go_wp2_with fail;exact bodyPost_ret (v:=.agg #[.int .u16 a,.int .u8 b]) (results_cell_row rfl _ _ W.heap.size _ _ _ _ rfl B.o.row underlying410 rfl eU) rfl ⟨rfl,qL⟩
theorem Hp.drew{w:World}{T p m N n f k:Nat}{G:Nat->Nat->Nat}{D:DataW Value}{l:Nat->Nat}(h:Hp w T p m G N D l n f k):Hp w.drew T p m G N D l n f k:=⟨h.c0,h.c1,h.own,h.dic,h.rows,h.one,h.apart⟩
theorem find_any(T p m N n f X:Nat)(G:Nat->Nat->Nat)(D:DataW Value)(l:Nat->Nat)(W:World)(j:Fit l n)(B:1<=f)(hf:f<=15)(hX:X<big)(H:Hp W T p m G N D l n f n):
 Calls prog 316 #[.pointer (some ⟨p,0,none⟩),.int .u64 X] W λe w'=>e=.returned (.agg #[.int .u16 (fnd l n X n).1,.int .u8 (fnd l n X n).2])/\Below W.heap.size W w':=by
 have Q:=sF (l:=l) (n:=n) B n;have HH:=qH H;have a1:=H.c0;have A:∀w,Hp w T p m G N D l n f n->(Instr.lookup 400 (.map (some m)) (.agg #[.int .u64 0,.int .i64 0]) false).run prog w=.ok (.slice (some ⟨G 0 0,0,none⟩) (2^f) (2^f)) w:=λw h=>by
  have:=GB h.own h.dic (b:=0) (s:=0) (by omega) (by omega);rw[Q] at this;exact this
 have HA:=qH (λw (h:Hp w T p m G N D l n f n)=>fQ (G 0 0) f X (λx=>cv l n f 0 0 x n) w hX hf (h.rows 0 0 f Q));have a6:p<W.heap.size:=qB a1;have S:Hp (W.alloc (.cells #[.int .u16 0,.int .u8 0] 410)) T p m G N D l n f n:=H.below (qL);have l1:=A _ S;have a0:=S.c1;have M:=qH S;have B1:=qH ((Below.refl W.heap.size W).alloc qR (.cells #[.int .u16 0,.int .u8 0] 410));have R1:=qH (R2.new W 410 (.int .u16 0) (.int .u8 0));obtain⟨c1,P⟩:∃c1,(cv l n f 0 0 (X%2^f) n).1=c1:=⟨_,rfl⟩
 obtain⟨c2,r⟩:∃c2,(cv l n f 0 0 (X%2^f) n).2=c2:=⟨_,rfl⟩
 have a3:=zj (l:=l) (f:=f) (b:=0) (s:=0) (x:=X%2^f) j.1 (BN n);rw[P,r] at HA a3;obtain⟨F,hF⟩:∃F,2^f=F:=⟨_,rfl⟩
 obtain⟨g0,a2⟩:∃g0,G 0 0=g0:=⟨_,rfl⟩
 rw[hF,a2] at HA l1;obtain⟨a,Y⟩:∃a,(fnd l n X n).1=a:=⟨_,rfl⟩
 obtain⟨d,hd⟩:∃d,(fnd l n X n).2=d:=⟨_,rfl⟩
 rw[Y,hd];clear A H S;go_enter func316,ntmps316;go_wp2_with fail;refine(HA.o _ M.o).mono ?_;rintro e w3 ⟨rfl,b3⟩;have H3:=qH (M.o.below b3);have U:=qbt B1 b3;have R3:=qH (R1.o.below b3 R1.o.lt);clear b3 l1 a0;by_cases E:c2=0
 · have HF:=qH (λw=>fF X f w hX (by omega))
   have hq:X/2^f<big:=CI (CJ _ _) hX
   obtain⟨V,q,HC⟩:∃V,(∀w,w.ownsMap prog 406 rN m N D->(Instr.lookup 400 (.map (some m)) (.agg #[.int .u64 (X%2^f:Nat),.int .i64 f]) false).run prog w=.ok V w)/\
    Hd (∀w,Hp w T p m G N D l n f n->Calls prog 334 #[V,.int .u64 (X/2^f:Nat)] w λe w'=>e=.returned (.agg #[.int .u16 (fnd l n X n).1,.int .u8 (fnd l n X n).2])/\Below w.heap.size w w'):=by
    have hb:X%2^f<2^f:=AR _ (AA f);have a5:2^f<=2^15:=Ak (by omega) hf;refine⟨slo ((sz l n f (X%2^f) f n).map λz=>(G (X%2^f) f,2^z)),λw h=>GB h HH.o.dic (b:=X%2^f) (s:=f) (by omega) (by omega),qH (λw h=> ?_)⟩;cases hs:sz l n f (X%2^f) f n with
    |none=>
     rw[yY B (by rw[r];exact E) hs];exact mS _ w hq
    |some mz=>
     rw[mJ j B (by rw[r];exact E) hs];exact fQ _ mz _ (λx=>cv l n f (X%2^f) f x n) w hq (sG hf n j.1.2 mz hs) (h.rows _ _ mz hs)
   obtain⟨y,hy⟩:∃y,X%2^f=y:=⟨_,rfl⟩
   obtain⟨v,hv⟩:∃v,X/2^f=v:=⟨_,rfl⟩
   have a4:(X:Int) /2^f=(v:Int):=(by rw[<-hv];push_cast;rfl);rw[hy] at q HF;rw[hv,Y,hd] at HC;clear hF;go_wp2_with fail;have B5:=U.o.alloc U.o.size (.cells #[.int .u16 c1,.int .u8 0] 410);have O:=H3.o.below ((Below.refl w3.heap.size w3).alloc qR (.cells #[.int .u16 c1,.int .u8 0] 410));have R5:=R3.o.alloc (.cells #[.int .u16 c1,.int .u8 0] 410);generalize w3.alloc (.cells #[.int .u16 c1,.int .u8 0] 410)=w5 at B5 O R5 ⊢;refine aW (λw'=>w'.cell? ⟨p,0,none⟩=some (.int .i64 f)/\w'.cell? ⟨p,1,none⟩=some (.map (some m))/\(Instr.lookup 400 (.map (some m)) (.agg #[.int .u64 y,.int .i64 f]) false).run prog w'=.ok V w') ⟨O.c0,O.c1,q _ O.drew.own⟩ (λg=> ?_)
   first
   |(refine take_no (i:=0) (d:=some 18) rfl rfl (by kernel_rfl) (by kernel_rfl) (by kernel_rfl) (λ_ _ _ h=>h) (by rfl) g ?_;(try simp only[Act.put,List.setIfInBounds_toArray,List.set_cons_zero,List.set_cons_succ]))
   |(refine af (i:=0) (d:=some 18) (v:= ?_) rfl rfl (by kernel_rfl) (by kernel_rfl) (by kernel_rfl) (λ_ _ _ h=>h) (by rfl) (λw c=> ?_) g ?_;rotate_left;(focus ((try dsimp only at c);go_simp;(try with_reducible rfl)));(try simp only[Act.put,List.setIfInBounds_toArray,List.set_cons_zero,List.set_cons_succ]))
   first
   |(refine take_no (i:=1) (d:=some 19) rfl rfl (by kernel_rfl) (by kernel_rfl) (by kernel_rfl) (λ_ _ _ h=>h) (by rfl) g ?_;(try simp only[Act.put,List.setIfInBounds_toArray,List.set_cons_zero,List.set_cons_succ]))
   |(refine af (i:=1) (d:=some 19) (v:= ?_) rfl rfl (by kernel_rfl) (by kernel_rfl) (by kernel_rfl) (λ_ _ _ h=>h) (by rfl) (λw c=> ?_) g ?_;rotate_left;(focus ((try dsimp only at c);go_simp;(try with_reducible rfl)));(try simp only[Act.put,List.setIfInBounds_toArray,List.set_cons_zero,List.set_cons_succ]))
   first
   |(refine take_no (i:=2) (d:=some 20) rfl rfl (by kernel_rfl) (by kernel_rfl) (by kernel_rfl) (λ_ _ _ h=>h) (by rfl) g ?_;(try simp only[Act.put,List.setIfInBounds_toArray,List.set_cons_zero,List.set_cons_succ]))
   |(refine af (i:=2) (d:=some 20) (v:= ?_) rfl rfl (by kernel_rfl) (by kernel_rfl) (by kernel_rfl) (λ_ _ _ h=>h) (by rfl) (λw c=> ?_) g ?_;rotate_left;(focus ((try dsimp only at c);go_simp;(try with_reducible rfl)));(try simp only[Act.put,List.setIfInBounds_toArray,List.set_cons_zero,List.set_cons_succ]))
   first
   |(refine take_no (i:=3) (d:=some 21) rfl rfl (by kernel_rfl) (by kernel_rfl) (by kernel_rfl) (λ_ _ _ h=>h) (by rfl) g ?_;(try simp only[Act.put,List.setIfInBounds_toArray,List.set_cons_zero,List.set_cons_succ]))
   |(refine af (i:=3) (d:=some 21) (v:= ?_) rfl rfl (by kernel_rfl) (by kernel_rfl) (by kernel_rfl) (λ_ _ _ h=>h) (by rfl) (λw c=> ?_) g ?_;rotate_left;(focus ((try dsimp only at c);go_simp;(try with_reducible rfl)));(try simp only[Act.put,List.setIfInBounds_toArray,List.set_cons_zero,List.set_cons_succ]))
   first
   |(refine take_no (i:=4) (d:=some 22) rfl rfl (by kernel_rfl) (by kernel_rfl) (by kernel_rfl) (λ_ _ _ h=>h) (by rfl) g ?_;(try simp only[Act.put,List.setIfInBounds_toArray,List.set_cons_zero,List.set_cons_succ]))
   |(refine af (i:=4) (d:=some 22) (v:= ?_) rfl rfl (by kernel_rfl) (by kernel_rfl) (by kernel_rfl) (λ_ _ _ h=>h) (by rfl) (λw c=> ?_) g ?_;rotate_left;(focus ((try dsimp only at c);go_simp;(try with_reducible rfl)));(try simp only[Act.put,List.setIfInBounds_toArray,List.set_cons_zero,List.set_cons_succ]))
   first
   |(refine take_no (i:=5) (d:=some 23) rfl rfl (by kernel_rfl) (by kernel_rfl) (by kernel_rfl) (λ_ _ _ h=>h) (by rfl) g ?_;(try simp only[Act.put,List.setIfInBounds_toArray,List.set_cons_zero,List.set_cons_succ]))
   |(refine af (i:=5) (d:=some 23) (v:= ?_) rfl rfl (by kernel_rfl) (by kernel_rfl) (by kernel_rfl) (λ_ _ _ h=>h) (by rfl) (λw c=> ?_) g ?_;rotate_left;(focus ((try dsimp only at c);go_simp;(try with_reducible rfl)));(try simp only[Act.put,List.setIfInBounds_toArray,List.set_cons_zero,List.set_cons_succ]))
   first
   |(refine take_no (i:=6) (d:=some 24) rfl rfl (by kernel_rfl) (by kernel_rfl) (by kernel_rfl) (λ_ _ _ h=>h) (by rfl) g ?_;(try simp only[Act.put,List.setIfInBounds_toArray,List.set_cons_zero,List.set_cons_succ]))
   |(refine af (i:=6) (d:=some 24) (v:= ?_) rfl rfl (by kernel_rfl) (by kernel_rfl) (by kernel_rfl) (λ_ _ _ h=>h) (by rfl) (λw c=> ?_) g ?_;rotate_left;(focus ((try dsimp only at c);go_simp;(try with_reducible rfl)));(try simp only[Act.put,List.setIfInBounds_toArray,List.set_cons_zero,List.set_cons_succ]))
   first
   |(refine take_no (i:=7) (d:=some 25) rfl rfl (by kernel_rfl) (by kernel_rfl) (by kernel_rfl) (λ_ _ _ h=>h) (by rfl) g ?_;(try simp only[Act.put,List.setIfInBounds_toArray,List.set_cons_zero,List.set_cons_succ]))
   |(refine af (i:=7) (d:=some 25) (v:= ?_) rfl rfl (by kernel_rfl) (by kernel_rfl) (by kernel_rfl) (λ_ _ _ h=>h) (by rfl) (λw c=> ?_) g ?_;rotate_left;(focus ((try dsimp only at c);go_simp;(try with_reducible rfl)));(try simp only[Act.put,List.setIfInBounds_toArray,List.set_cons_zero,List.set_cons_succ]))
   first
   |(refine take_no (i:=8) (d:=some 26) rfl rfl (by kernel_rfl) (by kernel_rfl) (by kernel_rfl) (λ_ _ _ h=>h) (by rfl) g ?_;(try simp only[Act.put,List.setIfInBounds_toArray,List.set_cons_zero,List.set_cons_succ]))
   |(refine af (i:=8) (d:=some 26) (v:= ?_) rfl rfl (by kernel_rfl) (by kernel_rfl) (by kernel_rfl) (λ_ _ _ h=>h) (by rfl) (λw c=> ?_) g ?_;rotate_left;(focus ((try dsimp only at c);go_simp;(try with_reducible rfl)));(try simp only[Act.put,List.setIfInBounds_toArray,List.set_cons_zero,List.set_cons_succ]))
   first
   |(refine take_no (i:=11) (d:=some 29) rfl rfl (by kernel_rfl) (by kernel_rfl) (by kernel_rfl) (λ_ _ _ h=>h) (by rfl) g ?_;(try simp only[Act.put,List.setIfInBounds_toArray,List.set_cons_zero,List.set_cons_succ]))
   |(refine af (i:=11) (d:=some 29) (v:= ?_) rfl rfl (by kernel_rfl) (by kernel_rfl) (by kernel_rfl) (λ_ _ _ h=>h) (by rfl) (λw c=> ?_) g ?_;rotate_left;(focus ((try dsimp only at c);go_simp;(try with_reducible rfl)));(try simp only[Act.put,List.setIfInBounds_toArray,List.set_cons_zero,List.set_cons_succ]))
   first
   |(refine take_no (i:=12) (d:=some 30) rfl rfl (by kernel_rfl) (by kernel_rfl) (by kernel_rfl) (λ_ _ _ h=>h) (by rfl) g ?_;(try simp only[Act.put,List.setIfInBounds_toArray,List.set_cons_zero,List.set_cons_succ]))
   |(refine af (i:=12) (d:=some 30) (v:= ?_) rfl rfl (by kernel_rfl) (by kernel_rfl) (by kernel_rfl) (λ_ _ _ h=>h) (by rfl) (λw c=> ?_) g ?_;rotate_left;(focus ((try dsimp only at c);go_simp;(try with_reducible rfl)));(try simp only[Act.put,List.setIfInBounds_toArray,List.set_cons_zero,List.set_cons_succ]))
   first
   |(refine take_no (i:=13) (d:=some 31) rfl rfl (by kernel_rfl) (by kernel_rfl) (by kernel_rfl) (λ_ _ _ h=>h) (by rfl) g ?_;(try simp only[Act.put,List.setIfInBounds_toArray,List.set_cons_zero,List.set_cons_succ]))
   |(refine af (i:=13) (d:=some 31) (v:= ?_) rfl rfl (by kernel_rfl) (by kernel_rfl) (by kernel_rfl) (λ_ _ _ h=>h) (by rfl) (λw c=> ?_) g ?_;rotate_left;(focus ((try dsimp only at c);go_simp;(try with_reducible rfl)));(try simp only[Act.put,List.setIfInBounds_toArray,List.set_cons_zero,List.set_cons_succ]))
   first
   |(refine take_no (i:=14) (d:=some 32) rfl rfl (by kernel_rfl) (by kernel_rfl) (by kernel_rfl) (λ_ _ _ h=>h) (by rfl) g ?_;(try simp only[Act.put,List.setIfInBounds_toArray,List.set_cons_zero,List.set_cons_succ]))
   |(refine af (i:=14) (d:=some 32) (v:= ?_) rfl rfl (by kernel_rfl) (by kernel_rfl) (by kernel_rfl) (λ_ _ _ h=>h) (by rfl) (λw c=> ?_) g ?_;rotate_left;(focus ((try dsimp only at c);go_simp;(try with_reducible rfl)));(try simp only[Act.put,List.setIfInBounds_toArray,List.set_cons_zero,List.set_cons_succ]))
   first
   |(refine take_no (i:=15) (d:=some 33) rfl rfl (by kernel_rfl) (by kernel_rfl) (by kernel_rfl) (λ_ _ _ h=>h) (by rfl) g ?_;(try simp only[Act.put,List.setIfInBounds_toArray,List.set_cons_zero,List.set_cons_succ]))
   |(refine af (i:=15) (d:=some 33) (v:= ?_) rfl rfl (by kernel_rfl) (by kernel_rfl) (by kernel_rfl) (λ_ _ _ h=>h) (by rfl) (λw c=> ?_) g ?_;rotate_left;(focus ((try dsimp only at c);go_simp;(try with_reducible rfl)));(try simp only[Act.put,List.setIfInBounds_toArray,List.set_cons_zero,List.set_cons_succ]))
   first
   |(refine take_no (i:=16) (d:=some 34) rfl rfl (by kernel_rfl) (by kernel_rfl) (by kernel_rfl) (λ_ _ _ h=>h) (by rfl) g ?_;(try simp only[Act.put,List.setIfInBounds_toArray,List.set_cons_zero,List.set_cons_succ]))
   |(refine af (i:=16) (d:=some 34) (v:= ?_) rfl rfl (by kernel_rfl) (by kernel_rfl) (by kernel_rfl) (λ_ _ _ h=>h) (by rfl) (λw c=> ?_) g ?_;rotate_left;(focus ((try dsimp only at c);go_simp;(try with_reducible rfl)));(try simp only[Act.put,List.setIfInBounds_toArray,List.set_cons_zero,List.set_cons_succ]))
   refine ar (i:=9) (by kernel_rfl) rfl (λK u=> ?_);go_simp;refine(HF.o _).mono ?_;rintro e w6 ⟨rfl,b6⟩;have J:=O.drew.below b6;have Z:=R5.drew.below b6 R5.drew.lt;have B6:=B5.drew.trans (b6.mono B5.drew.size);have l6:=q w6 J.own;refine u.out _ _ ⟨J.c0,J.c1,l6⟩ (λB=> ?_);clear u K g
   (try simp only[Act.put,List.setIfInBounds_toArray,List.set_cons_zero,List.set_cons_succ])
   first
   |(refine take_no (i:=10) (d:=some 28) rfl rfl (by kernel_rfl) (by kernel_rfl) (by kernel_rfl) (λ_ _ _ h=>h) (by rfl) B ?_;(try simp only[Act.put,List.setIfInBounds_toArray,List.set_cons_zero,List.set_cons_succ]))
   |(refine af (i:=10) (d:=some 28) (v:= ?_) rfl rfl (by kernel_rfl) (by kernel_rfl) (by kernel_rfl) (λ_ _ _ h=>h) (by rfl) (λw c=> ?_) B ?_;rotate_left;(focus ((try dsimp only at c);go_simp;(try with_reducible rfl)));(try simp only[Act.put,List.setIfInBounds_toArray,List.set_cons_zero,List.set_cons_succ]))
   refine ar (i:=17) (by kernel_rfl) rfl (λK u=> ?_);go_simp;refine(HC.o _ J).mono ?_;rintro e w7 ⟨rfl,b7⟩;have C:=J.below b7;have L:=Z.below b7 Z.lt;have B7:=B6.trans (b7.mono B6.size);have l7:=q w7 C.own;refine u.out _ _ ⟨C.c0,C.c1,l7⟩ (λh2=> ?_);clear u K B
   (try simp only[Act.put,List.setIfInBounds_toArray,List.set_cons_zero,List.set_cons_succ])
   refine ar (i:=18) (by kernel_rfl) rfl (λK u=> ?_);go_simp;have R:p≠W.heap.size:=(by have:=qB HH.o.c0;simp at this;omega);have m4:m≠W.heap.size:=(by have:=HH.o.own.lt;omega);have v0:=L.at0;have v1:=L.at1;have z0:=L.frozen 0;have z1:=L.frozen 1;go_simp;have H8:=q _ ((C.own.setCell (a:=⟨W.heap.size,0,none⟩) m4 (.int .u16 a)).setCell (a:=⟨W.heap.size,1,none⟩) m4 (.int .u8 d));refine u.out _ _ ⟨cJ (cJ C.c0 R _) R _,cJ (cJ C.c1 R _) R _,H8⟩ (λh3=> ?_);clear u K h2
   (try simp only[Act.put,List.setIfInBounds_toArray,List.set_cons_zero,List.set_cons_succ])
   refine wpAnyH_done (by kernel_rfl) ?_ _;have HP:=qH (L.put (.int .u16 a) (.int .u8 d));have B8:=qH ((B7.setCell (p:=⟨W.heap.size,0,none⟩) qR (.int .u16 a)).setCell (p:=⟨W.heap.size,1,none⟩) qR (.int .u8 d));clear h3 H8 v0 v1 z0 z1 J C Z L B6 B7 l6 l7 q;go_wp2_with fail;exact bodyPost_ret (v:=.agg #[.int .u16 a,.int .u8 d]) (results_cell_row rfl _ _ _ _ _ _ _ rfl HP.o.row underlying410 rfl eU) rfl ⟨rfl,B8.o⟩
 · have d0:decide (0<(c2:Int))=true:=q9T (by omega)
   have d1:decide (0<c2)=true:=q9T (by omega);have I:=uY j B (show(cv l n f 0 0 (X%2^f) n).2≠0 by rw[r];exact E);have ea:a=c1:=(by rw[<-Y,I,P]);have ed:d=c2:=(by rw[<-hd,I,r]);subst ea ed;have v0:=(R3.o.alloc (.cells #[.int .u16 a,.int .u8 d] 410)).at0;have v1:=(R3.o.alloc (.cells #[.int .u16 a,.int .u8 d] 410)).at1;have z0:=(R3.o.alloc (.cells #[.int .u16 a,.int .u8 d] 410)).frozen 0;have z1:=(R3.o.alloc (.cells #[.int .u16 a,.int .u8 d] 410)).frozen 1;have HP:=qH ((R3.o.alloc (.cells #[.int .u16 a,.int .u8 d] 410)).put (.int .u16 a) (.int .u8 d));clear I;go_wp2_with fail;exact bodyPost_ret (v:=.agg #[.int .u16 a,.int .u8 d]) (results_cell_row rfl _ _ _ _ _ _ _ rfl HP.o.row underlying410 rfl eU) rfl ⟨rfl,((U.o.alloc U.o.size _).setCell qR _).setCell qR _⟩
