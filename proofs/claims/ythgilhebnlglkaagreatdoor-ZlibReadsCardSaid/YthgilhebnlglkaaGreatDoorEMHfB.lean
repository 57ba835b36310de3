import Derived.Test.YthgilhebnlglkaaGreatDoorEDic
import Derived.StillTailTactics
set_option linter.all false
set_option maxHeartbeats 8000000
set_option maxRecDepth 1000000
open Go.Proofs.Tryz
namespace Go.Proofs.YthgilhebnlglkaaGreatDoor.H
open Go Go.RowKit M C
theorem z6d(A:Option Addr)(n c:Nat)(l:Nat->Nat)(f:Nat)(W:World)(hm:May l n)(H:z6V W A n (rc l n) l)(h1:1<=f)(hf:f<=15):
 Calls prog 313 #[.slice A n c,.int .i64 f] W λe w'=>e=.returned (.map (some W.heap.size))/\
  ∃N D,w'.ownsMap prog 406 (plainElem prog 3) W.heap.size N D/\N<=n+1/\Dic D zet (λb s=>sz l n f b s n)/\Below W.heap.size W w':=by
 have h320:=hm.1;obtain⟨HH,HM⟩:=qh2 H hm;have hn:n<=9223372036854775807:=(by omega);have hmm:= @run_makeMap prog;have ho:=World.ownsMap_made W prog 406 (plainElem (H:=Value) prog 3);obtain⟨w1,D1,hr1,o1,d1,g1⟩:=zf4 ho (Dic.empty zet) (b:=0) (s:=0) (by omega) (by omega) (by decide) f (by omega);have hr1':(Instr.mapUpdate 403 (.map (some W.heap.size)) (.agg #[.int .u64 0,.int .i64 0]) (.int .i64 f)).run prog (W.alloc (.map #[] 0))=.ok () w1:=hr1;have HO:=qH o1;have HD:=qH (d1.congr (g:=λb s=>sz l n f b s 0) (λb s=>by simp only[sz]));have HB:=qH (((Below.refl W.heap.size W).alloc qR (.map #[] 0)).grown g1 (by simp) (λj hj=>by cases hj;exact qR));clear H hm hr1 o1 d1 g1 ho;go_enter func313,ntmps313;go_wp2_with fail;clear hmm hr1'
 go_loopw [15] (λi wr=> ∃k N:Nat,∃D,k<=n/\i=.int .i64 k/\wr.ownsMap prog 406 (plainElem prog 3) W.heap.size N D/\N<=k+1/\Dic D zet (λb s=>sz l n f b s k)/\Below W.heap.size W wr) (λi _=>n - (intOf i).toNat)
 case atStart=>exact⟨0,1,D1,qZ,rfl,HO.o,qR,HD.o,HB.o⟩
 case round=>
  clear HO HD HB;obtain⟨k,N,D,hkn,rfl,ho,hN,hd,hb⟩:=hrel;obtain⟨HO,HD,HB⟩:=qh3 ho hd hb;clear ho hd hb;by_cases hlt:k<n
  · obtain⟨b,o,rfl,hbs,hc⟩:=HH.o (by omega)
    have h15:=HM.o.2 k hlt;have g1:=(HB.o.cell hbs).trans (hc k hlt).1;have g2:=(HB.o.cell hbs).trans (hc k hlt).2;have HA:=qH (λw=>z3t l n f k w h15 hf);have hab:=zcw l n f k;have hab2:2^f<=2^15:=Nat.pow_le_pow_right (by omega) hf;have has:=z0p l n f k;obtain⟨x,hx⟩:∃x,rc l n k=x:=⟨_,rfl⟩
    obtain⟨z,hz⟩:∃z,l k=z:=⟨_,rfl⟩
    obtain⟨ab,e1⟩:∃ab,ahb l n f k=ab:=⟨_,rfl⟩
    obtain⟨ag,e2⟩:∃ag,ahs l f k=ag:=⟨_,rfl⟩
    rw[hx] at g1;rw[hz] at g2 h15;rw[hx,hz,e1,e2] at HA;rw[e1] at hab;have has2:ag<=15/\(ag<=z\/ag=0):=(by rw[e2,hz] at has;omega);have hkk:((k:Int)).toNat=k:=(by omega);clear has hc;go_wp2_with fail;refine(HA.o _).mono ?_;rintro e w2 ⟨rfl,b2⟩;have hlt0:=HO.o.lt;have cc:=((R2.new wr 216 (.int .u32 x) (.int .u8 z)).below b2 (R2.lt (R2.new wr 216 (.int .u32 x) (.int .u8 z))));have RR:=R2.new w2 406 (.int .u64 ab) (.int .i64 ag);have B2:=qH (((Below.refl wr.heap.size wr).alloc qR (.cells #[.int .u32 x,.int .u8 z] 216)).trans (b2.mono (by simp)));have B3:=qH (B2.o.alloc B2.o.size (.cells #[.int .u64 ab,.int .i64 ag] 406));have O3:=qH (z0D HO.o B3.o hlt0);have c1:=(cc.alloc (.cells #[.int .u64 ab,.int .i64 ag] 406)).drew.at1;have r0:=RR.drew.at0;have r1:=RR.drew.at1;have hlk:=zk8 (w:=(w2.alloc (.cells #[.int .u64 ab,.int .i64 ag] 406)).drew) O3.o.drew HD.o (b:=ab) (s:=ag) (by omega) (by omega);obtain⟨y,hy⟩:∃y,(sz l n f ab ag k).getD 0=y:=⟨_,rfl⟩
    rw[hy] at hlk;obtain⟨d,hdd⟩:∃d,z - ag=d:=⟨_,rfl⟩
    have hsub:(z:Int) - (ag:Int)=(d:Int):=(by omega);obtain⟨M,hM⟩:∃M,max y d=M:=⟨_,rfl⟩
    have hyb:y<=15:=by
     cases q:sz l n f ab ag k with
     |none=>rw[q] at hy;simp at hy;omega
     |some m'=>rw[q] at hy;have:=z9X hf k (λi hi=>HM.o.2 i (by omega)) m' q;simp at hy;omega
    have hmx:(if(y:Int)<(d:Int) then(d:Int) else(y:Int))=(M:Int):=(by split<;>omega);have hmx2:(if y<d then(d:Int) else(y:Int))=(M:Int):=(by split<;>omega);have hmx3:max (y:Int) (d:Int)=(M:Int):=(by omega);have hmx4:max (d:Int) (y:Int)=(M:Int):=(by omega);have hwz:IntKind.i64.wrap (z:Int)=(z:Int):=IntWalk.i64_in _ ⟨by omega,by omega⟩;have hws:IntKind.i64.wrap (d:Int)=(d:Int):=IntWalk.i64_in _ ⟨by omega,by omega⟩;have B4:=qH (Below.drew B3.o);have O4:=qH O3.o.drew;unfold z7m at hlk;clear b2 cc RR;go_wp2_with fail;refine wp_region_still_tail 12 (by kernel_rfl) (by kernel_rfl) ?_
    change wpStill _ _ (w2.alloc (.cells #[.int .u64 ab,.int .i64 ag] 406)).drew (λa'=>wpList _ _ _ _ a' (w2.alloc (.cells #[.int .u64 ab,.int .i64 ag] 406)).drew) _ _
    generalize (w2.alloc (.cells #[.int .u64 ab,.int .i64 ag] 406)).drew=w4 at c1 r0 r1 hlk B4 O4 ⊢;simp only[List.take_succ_cons,List.take_zero,List.drop_succ_cons,List.drop_zero]
    repeat still_step
    refine wpStill_nil ?_
    obtain⟨w5,D5,hst,o5,d5,g5⟩:=zf4 O4.o HD.o (b:=ab) (s:=ag) (by omega) (by omega) (by unfold maxLen;omega) M (by omega);unfold z7m at hst;have B5:=qH ((HB.o.trans (B4.o.mono HB.o.size)).grown g5 (by have:=HB.o.size;have:=B4.o.size;omega) (λj hj=>by cases hj;exact qR));have O5:=qH o5;have D6:=qH (d5.congr (g:=λb s=>sz l n f b s (k+1)) (λb s=>by
     simp only[sz];rw[e1,e2];by_cases q:b=ab/\s=ag
     · rw[if_pos q,if_pos ⟨q.1.symm,q.2.symm⟩,q.1,q.2,hy,hz,hdd,hM]
     · rw[if_neg q,if_neg (λk=>q ⟨k.1.symm,k.2.symm⟩)]))
    clear o5 d5 g5 c1 r0 r1 hlk hmx hmx2 hmx3 hmx4 hwz hws O4;go_wp2_with fail;go_roundw
    case rel=>exact⟨k+1,N+1,D5,by omega,by go_num,O5.o,by omega,D6.o,B5.o⟩
    case measure=>simp[intOf];omega
  · obtain rfl:k=n:=by omega
    go_wp2_with fail;go_ret;exact⟨rfl,N,D,HO.o,hN,HD.o,HB.o⟩
def Hrow(w:World)(b n:Nat)(F:Nat->Nat×Nat):Prop:=
 ∃c:Array Value,w.heap[b]? =some (.cells c 410 (0,0))/\c.size=n*2/\∀i,i<n->c[i*2]? =some (.int .u16 (F i).1)/\c[i*2+1]? =some (.int .u8 (F i).2)
section
variable {w w':World} {b n:Nat} {F F':Nat->Nat×Nat}
theorem Hrow.lt(h:Hrow w b n F):b<w.heap.size:=by
 obtain⟨c,hb,_⟩:=h;rcases Nat.lt_or_ge b w.heap.size with g|g
 · exact g
 · rw[Array.getElem?_eq_none g] at hb;cases hb
theorem Hrow.cell1(h:Hrow w b n F){i:Nat}(hi:i<n):w.cell? ⟨b,i*2,none⟩=some (.int .u16 (F i).1):=by
 obtain⟨c,hb,_,hc⟩:=h;rw[cell_of_row w b _ c _ _ hb];exact(hc i hi).1
theorem Hrow.cell2(h:Hrow w b n F){i:Nat}(hi:i<n):w.cell? ⟨b,i*2+1,none⟩=some (.int .u8 (F i).2):=by
 obtain⟨c,hb,_,hc⟩:=h;rw[cell_of_row w b _ c _ _ hb];exact(hc i hi).2
theorem Hrow.frozen(h:Hrow w b n F)(i:Nat):w.frozen? ⟨b,i,none⟩=false:=by
 obtain⟨c,hb,_⟩:=h;simp[World.frozen?,hb]
theorem Hrow.congr(h:Hrow w b n F)(e1:∀i,i<n->F i=F' i):Hrow w b n F':=by
 obtain⟨c,hb,hs,hc⟩:=h;exact⟨c,hb,hs,λi hi=>by rw[(hc i hi).1,(hc i hi).2,e1 i hi];exact⟨rfl,rfl⟩⟩
theorem Hrow.drew(h:Hrow w b n F):Hrow w.drew b n F:=h
theorem Hrow.below(h:Hrow w b n F){B:Nat}(hb:Below B w w')(hB:b<B):Hrow w' b n F:=by
 obtain⟨c,h1,hs,hc⟩:=h;exact⟨c,(hb.block b hB).trans h1,hs,hc⟩
theorem Hrow.at'(h:Hrow w b n F)(e:w'.heap[b]? =w.heap[b]?):Hrow w' b n F:=by
 obtain⟨c,h1,hs,hc⟩:=h;exact⟨c,e.trans h1,hs,hc⟩
theorem Hrow.set(h:Hrow w b n F)(i x y:Nat):Hrow ((w.setCell ⟨b,i*2,none⟩ (.int .u16 x)).setCell ⟨b,i*2+1,none⟩ (.int .u8 y)) b n (λj=>if j=i then(x,y) else F j):=by
 obtain⟨c,hb,hs,hc⟩:=h;refine⟨(c.setIfInBounds (i*2) (.int .u16 x)).setIfInBounds (i*2+1) (.int .u8 y),?_,by simp[hs],λj hj=> ?_⟩
 · simp[World.setCell,Array.getElem?_modify,hb]
 · obtain⟨h1,h2⟩:=hc j hj
   by_cases e:j=i
   · subst e
     have l1:j*2<c.size:=(by omega);have l2:j*2+1<c.size:=(by omega);constructor
     · rw[Array.getElem?_setIfInBounds,if_neg (by omega),Array.getElem?_setIfInBounds,if_pos rfl,if_pos l1];simp
     · rw[Array.getElem?_setIfInBounds,if_pos rfl,if_pos (by simpa using l2)];simp
   · constructor
     · rw[Array.getElem?_setIfInBounds,if_neg (by omega),Array.getElem?_setIfInBounds,if_neg (by omega),h1];simp[e]
     · rw[Array.getElem?_setIfInBounds,if_neg (by omega),Array.getElem?_setIfInBounds,if_neg (by omega),h2];simp[e]
theorem Hrow.made(w:World)(n:Nat):Hrow (w.alloc (.cells (madeCells #[.int .u16 0,.int .u8 0] (n*2)) 410)) w.heap.size n (λ_=>(0,0)):=by
 refine⟨_,heap_alloc_new w _,size_madeCells _ _,λi hi=> ?_⟩;have h1:i*2<n*2:=(by omega);have h2:i*2+1<n*2:=(by omega);have m1:i*2%2=0:=(by omega);have m2:(i*2+1)%2=1:=(by omega);constructor
 · simp[madeCells,h1,m1]
 · simp[madeCells,h2,m2]
end
theorem zeC:(prog.info? 410).map (λi=>(i.zero,i.size,i.bytes))=some (some (.agg #[.int .u16 0,.int .u8 0]),2,4):=by kernel_rfl
theorem zdM(w:World)(n:Nat)(hn:n<=32768):
 (Instr.makeSlice 407 (.int .i64 (n:Int)) (.int .i64 (n:Int))).run prog w=.ok (.slice (some ⟨w.heap.size,0,none⟩) n n) (w.alloc (.cells (madeCells #[.int .u16 0,.int .u8 0] (n*2)) 410)):=by
 obtain⟨i,h1,h2,h3,h4⟩:∃i,prog.info? 410 =some i/\i.zero=some (.agg #[.int .u16 0,.int .u8 0])/\i.size=2/\i.bytes=4:=by
  have hi:=zeC;cases hq: prog.info? 410 with
  |none=>rw[hq] at hi;cases hi
  |some i=>rw[hq] at hi;simp at hi;exact⟨i,rfl,hi.1,hi.2.1,hi.2.2⟩
 have hr:=run_make (P:= prog) w 407 410 i (.agg #[.int .u16 0,.int .u8 0]) underlying407 h1 h2 .i64 .i64 n n (by omega) (Int.le_refl _) (by rw[h4];omega) (by omega);simp only[Int.toNat_natCast] at hr;rw[h3] at hr;exact hr
structure Hp(w:World)(T p m:Nat)(G:Nat->Nat->Nat)(N:Nat)(D:DataW Value)(l:Nat->Nat)(n f k:Nat):Prop where
 c0:w.cell? ⟨p,0,none⟩=some (.int .i64 f)
 c1:w.cell? ⟨p,1,none⟩=some (.map (some m))
 own:w.ownsMap prog 406 z9s m N D
 dic:Dic D zes (λb s=>(sz l n f b s n).map λz=>(G b s,2^z))
 rows:∀b s z,sz l n f b s n=some z->Hrow w (G b s) (2^z) (λx=>cv l n f b s x k)
 one:∀b s z b' s' z',sz l n f b s n=some z->sz l n f b' s' n=some z'->G b s=G b' s'->b=b'/\s=s'
 apart:∀b s z,sz l n f b s n=some z->p≠G b s/\m≠G b s/\T<=G b s
section
variable {w w':World} {T p m N n f k:Nat} {G:Nat->Nat->Nat} {D:DataW Value} {l:Nat->Nat}
theorem Hp.below(h:Hp w T p m G N D l n f k)(hb:Below w.heap.size w w'):Hp w' T p m G N D l n f k:=
 ⟨(hb.cell (qB h.c0)).trans h.c0,(hb.cell (qB h.c1)).trans h.c1,z0D h.own hb h.own.lt,h.dic,λb s z e=>(h.rows b s z e).below hb (h.rows b s z e).lt,h.one,h.apart⟩
theorem Hp.congr{k':Nat}(h:Hp w T p m G N D l n f k)(e:∀b s x,cv l n f b s x k=cv l n f b s x k'):Hp w T p m G N D l n f k':=
 ⟨h.c0,h.c1,h.own,h.dic,λb s z q=>(h.rows b s z q).congr (λi _=>e b s i),h.one,h.apart⟩
end
theorem zil{y i st q:Nat}(hy:y%st=q)(hi:i%st=q)(h1:¬y<i)(h2:y<i+st):y=i:=by
 have e1:=Nat.div_add_mod y st;have e2:=Nat.div_add_mod i st;rw[hy] at e1;rw[hi] at e2;have h3:i/st<=y/st:=Nat.div_le_div_right (by omega);have h4:y/st<i/st+1:=by
  apply Classical.byContradiction
  intro g;have h5:st*(i/st+1)<=st*(y/st):=Nat.mul_le_mul_left _ (by omega);rw[Nat.mul_add,Nat.mul_one] at h5;omega
 have h6:i/st=y/st:=(by omega);rw[h6] at e2;omega
theorem z0A{w:World}{a:Addr}{v:Value}(h:w.cell? a=some v)(o:Obj):(w.alloc o).cell? a=some v:=
 (World.cell?_of_block (w:=w) (Below.heap_alloc w o a.block (qB h))).trans h
theorem z1m{w:World}{a b:Addr}{v:Value}(h:w.cell? a=some v)(hb:a.block≠b.block)(u:Value):(w.setCell b u).cell? a=some v:=
 (World.cell?_of_block (w:=w) (Below.heap_setCell w b u a.block hb)).trans h
theorem z8N(T p m N n f k:Nat)(G:Nat->Nat->Nat)(D:DataW Value)(l:Nat->Nat)(W:World)(hm:May l n)(h1:1<=f)(hf:f<=15)(hk:k<n)(h0:l k≠0)(H:Hp W T p m G N D l n f k)(hT:T<=W.heap.size):
 Calls prog 314 #[.pointer (some ⟨p,0,none⟩),.int .i64 k,.agg #[.int .u32 (rc l n k),.int .u8 (l k)]] W λe w'=>e=.returned (.tuple #[])/\Hp w' T p m G N D l n f (k+1)/\Below T W w':=by
 have h15:=hm.2 k hk;have h320:=hm.1;have hrc:=rc_lt l n k;have hrs:=z4t (l:=l) (n:=n) (i:=k) h15;have HA:=qH (λw=>z3t l n f k w h15 hf);have has:=z0p l n f k;have hab:=zcw l n f k;have hab2:2^f<=2^15:=Nat.pow_le_pow_right (by omega) hf;obtain⟨x,hx⟩:∃x,rc l n k=x:=⟨_,rfl⟩
 obtain⟨z,hz⟩:∃z,l k=z:=⟨_,rfl⟩
 obtain⟨ab,e1⟩:∃ab,ahb l n f k=ab:=⟨_,rfl⟩
 obtain⟨ag,e2⟩:∃ag,ahs l f k=ag:=⟨_,rfl⟩
 rw[hx,hz,e1,e2] at HA;rw[e1] at hab;have has2:ag<=15/\ag<=z:=(by rw[e2,hz] at has;omega);obtain⟨mz,hmz,hge⟩:=z9Y n hk e1 e2;have hm15:=z9X hf n hm.2 mz hmz;rw[hx,hz];rw[hz] at hge h15 hrc h0;rw[hx] at hrs hrc;have HH:=qH H;have hp0:=H.c0;have RC:=qH (R2.new W 216 (.int .u32 x) (.int .u8 z));have B1:=qH ((Below.refl W.heap.size W).alloc qR (.cells #[.int .u32 x,.int .u8 z] 216));have hp0':(W.alloc (.cells #[.int .u32 x,.int .u8 z] 216)).drew.cell? ⟨p,0,none⟩=some (.int .i64 f):=(B1.o.drew.cell (qB hp0)).trans hp0;have hpl:p<W.heap.size:=qB hp0;clear H has;go_enter func314,ntmps314;go_wp2_with fail;refine Code.wp_mono (Q:=λe a w'=>e=Exit.normal/\∃r,a=(⟨#[Value.pointer (some ⟨p,0,none⟩),Value.int .i64 k,Value.agg #[.int .u32 x,.int .u8 z],undef,undef,Value.pointer (some ⟨W.heap.size,0,none⟩),Value.pointer (some ⟨r,0,none⟩),undef,undef,undef,Value.agg #[.int .u32 x,.int .u8 z],Value.pointer (some ⟨p,0,none⟩),Value.pointer (some ⟨p,0,none⟩),Value.pointer (some ⟨p,0,none⟩),Value.int .i64 f,Value.agg #[.int .u64 ab,.int .i64 ag],undef,undef,undef,undef,undef,undef,undef,undef,undef,undef,undef,undef,undef,undef,undef,undef,undef,undef,undef,undef,undef,undef,undef,undef,undef,undef,undef,undef,undef,undef,undef,undef,undef,undef],[]⟩:Act)/\R2 w' 406 r (.int .u64 ab) (.int .i64 ag)/\W.heap.size<=r/\Below W.heap.size W w'/\R2 w' 216 W.heap.size (.int .u32 x) (.int .u8 z)) ?_ ?_
 rotate_left
 · have q0:=RC.o.drew.at0
   have q1:=RC.o.drew.at1;refine z10 (λw'=>w'.cell? ⟨p,0,none⟩=some (.int .i64 f)/\w'.cell? ⟨W.heap.size,0,none⟩=some (.int .u32 x)/\w'.cell? ⟨W.heap.size,1,none⟩=some (.int .u8 z)) ⟨hp0',q0,q1⟩ (λh0=> ?_);refine z04 (i:=0) (d:=some 10) (v:= ?_) rfl rfl (by kernel_rfl) (by kernel_rfl) (by kernel_rfl) (λ_ _ _ h=>by cases h.1) (by rfl) (λw hSw=> ?_) h0 ?_;rotate_left;(focus ((try dsimp only at hSw);go_simp;(try with_reducible rfl)));(try simp only[Act.put,List.setIfInBounds_toArray,List.set_cons_zero,List.set_cons_succ]);refine z04 (i:=1) (d:=some 11) (v:= ?_) rfl rfl (by kernel_rfl) (by kernel_rfl) (by kernel_rfl) (λ_ _ _ h=>by cases h.1) (by rfl) (λw hSw=> ?_) h0 ?_;rotate_left;(focus ((try dsimp only at hSw);go_simp;(try with_reducible rfl)));(try simp only[Act.put,List.setIfInBounds_toArray,List.set_cons_zero,List.set_cons_succ]);refine z04 (i:=2) (d:=some 12) (v:= ?_) rfl rfl (by kernel_rfl) (by kernel_rfl) (by kernel_rfl) (λ_ _ _ h=>by cases h.1) (by rfl) (λw hSw=> ?_) h0 ?_;rotate_left;(focus ((try dsimp only at hSw);go_simp;(try with_reducible rfl)));(try simp only[Act.put,List.setIfInBounds_toArray,List.set_cons_zero,List.set_cons_succ]);refine z04 (i:=3) (d:=some 13) (v:= ?_) rfl rfl (by kernel_rfl) (by kernel_rfl) (by kernel_rfl) (λ_ _ _ h=>by cases h.1) (by rfl) (λw hSw=> ?_) h0 ?_;rotate_left;(focus ((try dsimp only at hSw);go_simp;(try with_reducible rfl)));(try simp only[Act.put,List.setIfInBounds_toArray,List.set_cons_zero,List.set_cons_succ]);refine z04 (i:=4) (d:=some 14) (v:= ?_) rfl rfl (by kernel_rfl) (by kernel_rfl) (by kernel_rfl) (λ_ _ _ h=>by cases h.1) (by rfl) (λw hSw=> ?_) h0 ?_;rotate_left;(focus ((try dsimp only at hSw);go_simp;(try with_reducible rfl)));(try simp only[Act.put,List.setIfInBounds_toArray,List.set_cons_zero,List.set_cons_succ]);refine wpAnyH_ready (rs:=[5,6]) (by kernel_rfl) (by simp) (AllReadyH.cons rfl (λK hK=> ?_) (AllReadyH.cons rfl (λK hK=> ?_) AllReadyH.nil))
   · go_simp
     refine(HA.o _).mono ?_;rintro e w2 ⟨rfl,b2⟩;have rc2:=RC.o.drew.below b2 RC.o.drew.lt;have p2:=(b2.cell (qB h0.1)).trans h0.1;refine hK.out _ _ ⟨p2,rc2.at0,rc2.at1⟩ (λh1=> ?_);clear hK K
     (try simp only[Act.put,List.setIfInBounds_toArray,List.set_cons_zero,List.set_cons_succ])
     refine z0s (i:=6) (by kernel_rfl) rfl (λK hK=> ?_);go_simp;refine hK.out _ _ ⟨z0A p2 _,(rc2.alloc _).at0,(rc2.alloc _).at1⟩ (λh2=> ?_);clear hK K
     (try simp only[Act.put,List.setIfInBounds_toArray,List.set_cons_zero,List.set_cons_succ])
     refine z0s (i:=7) (by kernel_rfl) rfl (λK hK=> ?_);go_simp;refine hK.out _ _ ⟨z0A p2 _,(rc2.alloc _).at0,(rc2.alloc _).at1⟩ (λh3=> ?_);clear hK K
     (try simp only[Act.put,List.setIfInBounds_toArray,List.set_cons_zero,List.set_cons_succ])
     refine wpAnyH_done (by kernel_rfl) ?_ _;have B2:=B1.o.drew.trans (b2.mono B1.o.size);exact⟨rfl,w2.heap.size,rfl,R2.new w2 _ _ _,B2.size,B2.alloc B2.size _,rc2.alloc _⟩
   · go_simp
     have rr:=R2.new (W.alloc (.cells #[.int .u32 x,.int .u8 z] 216)).drew 406 (.int .u64 0) (.int .i64 0);rw[show(W.alloc (.cells #[.int .u32 x,.int .u8 z] 216)).drew.heap.size=W.heap.size+1 by simp[World.drew]] at rr;refine hK.out _ _ ⟨z0A h0.1 _,(RC.o.drew.alloc _).at0,(RC.o.drew.alloc _).at1⟩ (λh1=> ?_);clear hK K
     (try simp only[Act.put,List.setIfInBounds_toArray,List.set_cons_zero,List.set_cons_succ])
     refine z0s (i:=5) (by kernel_rfl) rfl (λK hK=> ?_);go_simp;refine(HA.o _).mono ?_;rintro e w2 ⟨rfl,b2⟩;have rc2:=(RC.o.drew.alloc _).below b2 (RC.o.drew.alloc _).lt;have rr2:=rr.below b2 rr.lt;have p2:=(b2.cell (qB h1.1)).trans h1.1;have e0:=rr2.at0;have e9:=rr2.at1;have f0:=rr2.frozen 0;have f9:=rr2.frozen 1;refine hK.out _ _ ⟨p2,rc2.at0,rc2.at1⟩ (λh2=> ?_);clear hK K
     (try simp only[Act.put,List.setIfInBounds_toArray,List.set_cons_zero,List.set_cons_succ])
     refine z0s (i:=7) (by kernel_rfl) rfl (λK hK=> ?_);go_simp;have rc3:=(rc2.other (x:=⟨W.heap.size+1,0,none⟩) (by simp) (.int .u64 ab)).other (x:=⟨W.heap.size+1,1,none⟩) (by simp) (.int .i64 ag);refine hK.out _ _ ⟨z1m (z1m p2 (by simp;omega) _) (by simp;omega) _,rc3.at0,rc3.at1⟩ (λh3=> ?_);clear hK K
     (try simp only[Act.put,List.setIfInBounds_toArray,List.set_cons_zero,List.set_cons_succ])
     refine wpAnyH_done (by kernel_rfl) ?_ _;have B2:=(B1.o.drew.alloc (by simp[World.drew]) _).trans (b2.mono (by simp[World.drew];omega));exact⟨rfl,W.heap.size+1,rfl,rr2.put _ _,by omega,(B2.setCell (by simp) _).setCell (by simp) _,rc3⟩
 rintro e a w2 ⟨rfl,r,rfl,RR,hr,b2,rc2⟩;go_wp2_with fail;have H2:=HH.o.below b2;have p1:w2.drew.cell? ⟨p,1,none⟩=some (.map (some m)):=H2.c1;have hlk:=zh6 (w:=w2.drew) H2.own.drew H2.dic (b:=ab) (s:=ag) (by omega) (by omega);rw[hmz] at hlk;obtain⟨g,hg⟩:∃g,G ab ag=g:=⟨_,rfl⟩
 obtain⟨Z,hZ⟩:∃Z,2^mz=Z:=⟨_,rfl⟩
 simp only[Option.map_some,slo,slv,z7m] at hlk;rw[hg,hZ] at hlk;obtain⟨R2',H2',C2',B2'⟩:=qh4 RR H2 rc2 b2;clear H2 b2 rc2;refine z10 (λw'=>w'.cell? ⟨p,1,none⟩=some (.map (some m))/\w'.cell? ⟨r,0,none⟩=some (.int .u64 ab)/\w'.cell? ⟨r,1,none⟩=some (.int .i64 ag)/\(Instr.lookup 400 (.map (some m)) (.agg #[.int .u64 ab,.int .i64 ag]) false).run prog w'=.ok (.slice (some ⟨g,0,none⟩) Z Z) w') ⟨p1,RR.drew.at0,RR.drew.at1,hlk⟩ (λh0=> ?_)
 first
 |(refine take_no (i:=0) (d:=some 16) rfl rfl (by kernel_rfl) (by kernel_rfl) (by kernel_rfl) (λ_ _ _ h=>h) (by rfl) h0 ?_;(try simp only[Act.put,List.setIfInBounds_toArray,List.set_cons_zero,List.set_cons_succ]))
 |(refine z04 (i:=0) (d:=some 16) (v:= ?_) rfl rfl (by kernel_rfl) (by kernel_rfl) (by kernel_rfl) (λ_ _ _ h=>h) (by rfl) (λw hSw=> ?_) h0 ?_;rotate_left;(focus ((try dsimp only at hSw);go_simp;(try with_reducible rfl)));(try simp only[Act.put,List.setIfInBounds_toArray,List.set_cons_zero,List.set_cons_succ]))
 first
 |(refine take_no (i:=1) (d:=some 17) rfl rfl (by kernel_rfl) (by kernel_rfl) (by kernel_rfl) (λ_ _ _ h=>h) (by rfl) h0 ?_;(try simp only[Act.put,List.setIfInBounds_toArray,List.set_cons_zero,List.set_cons_succ]))
 |(refine z04 (i:=1) (d:=some 17) (v:= ?_) rfl rfl (by kernel_rfl) (by kernel_rfl) (by kernel_rfl) (λ_ _ _ h=>h) (by rfl) (λw hSw=> ?_) h0 ?_;rotate_left;(focus ((try dsimp only at hSw);go_simp;(try with_reducible rfl)));(try simp only[Act.put,List.setIfInBounds_toArray,List.set_cons_zero,List.set_cons_succ]))
 first
 |(refine take_no (i:=2) (d:=some 18) rfl rfl (by kernel_rfl) (by kernel_rfl) (by kernel_rfl) (λ_ _ _ h=>h) (by rfl) h0 ?_;(try simp only[Act.put,List.setIfInBounds_toArray,List.set_cons_zero,List.set_cons_succ]))
 |(refine z04 (i:=2) (d:=some 18) (v:= ?_) rfl rfl (by kernel_rfl) (by kernel_rfl) (by kernel_rfl) (λ_ _ _ h=>h) (by rfl) (λw hSw=> ?_) h0 ?_;rotate_left;(focus ((try dsimp only at hSw);go_simp;(try with_reducible rfl)));(try simp only[Act.put,List.setIfInBounds_toArray,List.set_cons_zero,List.set_cons_succ]))
 first
 |(refine take_no (i:=3) (d:=some 19) rfl rfl (by kernel_rfl) (by kernel_rfl) (by kernel_rfl) (λ_ _ _ h=>h) (by rfl) h0 ?_;(try simp only[Act.put,List.setIfInBounds_toArray,List.set_cons_zero,List.set_cons_succ]))
 |(refine z04 (i:=3) (d:=some 19) (v:= ?_) rfl rfl (by kernel_rfl) (by kernel_rfl) (by kernel_rfl) (λ_ _ _ h=>h) (by rfl) (λw hSw=> ?_) h0 ?_;rotate_left;(focus ((try dsimp only at hSw);go_simp;(try with_reducible rfl)));(try simp only[Act.put,List.setIfInBounds_toArray,List.set_cons_zero,List.set_cons_succ]))
 first
 |(refine take_no (i:=4) (d:=some 20) rfl rfl (by kernel_rfl) (by kernel_rfl) (by kernel_rfl) (λ_ _ _ h=>h) (by rfl) h0 ?_;(try simp only[Act.put,List.setIfInBounds_toArray,List.set_cons_zero,List.set_cons_succ]))
 |(refine z04 (i:=4) (d:=some 20) (v:= ?_) rfl rfl (by kernel_rfl) (by kernel_rfl) (by kernel_rfl) (λ_ _ _ h=>h) (by rfl) (λw hSw=> ?_) h0 ?_;rotate_left;(focus ((try dsimp only at hSw);go_simp;(try with_reducible rfl)));(try simp only[Act.put,List.setIfInBounds_toArray,List.set_cons_zero,List.set_cons_succ]))
 first
 |(refine take_no (i:=5) (d:=some 21) rfl rfl (by kernel_rfl) (by kernel_rfl) (by kernel_rfl) (λ_ _ _ h=>h) (by rfl) h0 ?_;(try simp only[Act.put,List.setIfInBounds_toArray,List.set_cons_zero,List.set_cons_succ]))
 |(refine z04 (i:=5) (d:=some 21) (v:= ?_) rfl rfl (by kernel_rfl) (by kernel_rfl) (by kernel_rfl) (λ_ _ _ h=>h) (by rfl) (λw hSw=> ?_) h0 ?_;rotate_left;(focus ((try dsimp only at hSw);go_simp;(try with_reducible rfl)));(try simp only[Act.put,List.setIfInBounds_toArray,List.set_cons_zero,List.set_cons_succ]))
 first
 |(refine take_no (i:=6) (d:=some 7) rfl rfl (by kernel_rfl) (by kernel_rfl) (by kernel_rfl) (λ_ _ _ h=>h) (by rfl) h0 ?_;(try simp only[Act.put,List.setIfInBounds_toArray,List.set_cons_zero,List.set_cons_succ]))
 |(refine z04 (i:=6) (d:=some 7) (v:= ?_) rfl rfl (by kernel_rfl) (by kernel_rfl) (by kernel_rfl) (λ_ _ _ h=>h) (by rfl) (λw hSw=> ?_) h0 ?_;rotate_left;(focus ((try dsimp only at hSw);go_simp;(try with_reducible rfl)));(try simp only[Act.put,List.setIfInBounds_toArray,List.set_cons_zero,List.set_cons_succ]))
 refine wpAnyH_done (by kernel_rfl) ?_ _;have c1:=C2'.o.at1;have c0:=C2'.o.at0;have r1:=R2'.o.at1;obtain⟨st,hst⟩:∃st,2^(z - ag)=st:=⟨_,rfl⟩
 obtain⟨q,hq⟩:∃q,x/2^ag=q:=⟨_,rfl⟩
 have hZ15:Z<=32768:=(by rw[<-hZ];exact(Nat.pow_le_pow_right (by omega) hm15:2^mz<=2^15));have hst15:st<=32768:=(by rw[<-hst];exact(Nat.pow_le_pow_right (by omega) (show z - ag<=15 by omega):2^(z - ag)<=2^15));have hst1:1<=st:=(by rw[<-hst];exact Nat.one_le_two_pow);have hqs:q<st:=by
  rw[<-hq,<-hst,Nat.div_lt_iff_lt_mul (Nat.two_pow_pos _),<-Nat.pow_add,show z - ag+ag=z by omega];exact hrc
 have w1:wrap64 (2^(z - ag))=(st:Int):=by
  have:((2:Int)^(z - ag))=(st:Int):=(by rw[<-hst];push_cast;rfl);rw[this];exact IntWalk.wrap64_in _ ⟨by omega,by omega⟩
 have w3:(x:Int) /2^ag=(q:Int):=(by rw[<-hq];push_cast;rfl);have hag:=qH (H2'.o.rows ab ag mz hmz);rw[hg,hZ] at hag;have hap:=H2'.o.apart ab ag mz hmz;rw[hg] at hap;have hgW:g<W.heap.size:=by
  have:=(HH.o.rows ab ag mz hmz).lt
  rwa [hg] at this
 clear RR h0 p1 hlk;go_wp2_with fail;rw[w1];clear r1 c0;obtain⟨HST,HQ⟩:=qh2 hst hq;clear hst hq w1 w3
 go_loopw [9] (λv wr=> ∃i:Nat,v=.int .i64 i/\i<Z+st/\i%st=q/\Hrow wr g Z (λy=>if y%st=q/\y<i then(k,z) else cv l n f ab ag y k)/\Kept (λj=>j=g) w2 wr) (λv _=>Z+st - (intOf v).toNat)
 case atStart=>
  refine⟨q,rfl,by omega,Nat.mod_eq_of_lt hqs,hag.o.drew.congr (λi hi=> ?_),(Kept.refl _ w2).drew⟩;rw[if_neg];rintro⟨a,b⟩;rw[Nat.mod_eq_of_lt (by omega)] at a;omega
 case round=>
  obtain⟨i,rfl,hi,him,hr,hkp⟩:=hrel;have cc:wr.cell? ⟨W.heap.size,1,none⟩=some (.int .u8 z):=hkp.cell c1 (by simp;omega);obtain⟨HR,HK⟩:=qh2 hr hkp;have hii:((i:Int)).toNat=i:=(by omega);by_cases hlt:i<Z
  · have hf1:=hr.frozen (i*2)
    have hf2:=hr.frozen (i*2+1);have hr1:=hr.cell1 hlt;have hr2:=hr.cell2 hlt;obtain⟨o1,ho1⟩:∃o1,((if i%st=q/\i<i then(k,z) else cv l n f ab ag i k).1)=o1:=⟨_,rfl⟩
    obtain⟨o2,ho2⟩:∃o2,((if i%st=q/\i<i then(k,z) else cv l n f ab ag i k).2)=o2:=⟨_,rfl⟩
    rw[ho1] at hr1;rw[ho2] at hr2;clear hr hkp ho1 ho2;go_wp2_with fail;go_roundw
    case rel=>
     refine⟨i+st,by go_num,by omega,by rw[Nat.add_mod_right];exact him,(HR.o.set i k z).congr (λy hy=> ?_),(HK.o.setCell _ (.inl rfl) _).setCell _ (.inl rfl) _⟩;by_cases e:y=i
     · rw[if_pos e,if_pos ⟨by rw[e];exact him,by omega⟩]
     · rw[if_neg e]
       by_cases e2:y%st=q/\y<i
       · rw[if_pos e2,if_pos ⟨e2.1,by omega⟩]
       · rw[if_neg e2,if_neg]
         rintro⟨a,b⟩;exact e (zil a him (λg=>e2 ⟨a,g⟩) b)
    case measure=>simp[intOf];omega
  · clear hr hkp
    go_wp2_with fail;go_end0;have hK:=HK.o;refine⟨rfl,⟨hK.cell H2'.o.c0 (by simp;exact hap.1),hK.cell H2'.o.c1 (by simp;exact hap.1),?_,H2'.o.dic,?_,H2'.o.one,H2'.o.apart⟩,?_⟩
    · obtain⟨es,clock,h1,rest⟩:=H2'.o.own
      exact⟨es,clock,(hK.block m H2'.o.own.lt hap.2.1).trans h1,rest⟩
    · intro b s z' hz'
      have hrow:=H2'.o.rows b s z' hz';by_cases e:b=ab/\s=ag
      · obtain⟨rfl,rfl⟩:=e
        rw[hmz] at hz';injection hz' with hz'
        subst hz';rw[hg,hZ];refine HR.o.congr (λy hy=> ?_);simp only[cv];rw[hx,hz,HST.o,HQ.o];by_cases e3:y%st=q
        · rw[if_pos ⟨e3,by omega⟩,if_pos ⟨by omega,⟨e1,e2⟩,e3⟩]
        · rw[if_neg (λh=>e3 h.1),if_neg (λh=>e3 h.2.2)]
      · have hne:G b s≠g:=by
         intro h;rw[<-hg] at h;exact e (H2'.o.one b s z' ab ag mz hz' hmz h)
        refine(hrow.at' (hK.block _ hrow.lt hne)).congr (λy hy=> ?_);simp only[cv];rw[if_neg];rintro⟨_,a,_⟩;exact e ⟨by rw[<-a.1,e1],by rw[<-a.2,e2]⟩
    · have hb:=hK.below (B:=T) (by have:=B2'.o.size;omega) (λj hj=>by rw[hj];exact hap.2.2)
      exact(B2'.o.mono hT).trans hb
structure Hq(w:World)(T p m:Nat)(G:Nat->Nat->Nat)(N:Nat)(D:DataW Value)(l:Nat->Nat)(n f:Nat)(left:Lit->Bool):Prop where
 c0:w.cell? ⟨p,0,none⟩=some (.int .i64 f)
 c1:w.cell? ⟨p,1,none⟩=some (.map (some m))
 own:w.ownsMap prog 406 z9s m N D
 dic:Dic D zes (λb s=>if left (rk b s)=true then none else(sz l n f b s n).map λz=>(G b s,2^z))
 rows:∀b s z,sz l n f b s n=some z->left (rk b s)=false->Hrow w (G b s) (2^z) (λx=>(0,0))
 one:∀b s z b' s' z',sz l n f b s n=some z->sz l n f b' s' n=some z'->left (rk b s)=false->left (rk b' s')=false->G b s=G b' s'->b=b'/\s=s'
 apart:∀b s z,sz l n f b s n=some z->left (rk b s)=false->p≠G b s/\m≠G b s/\T<=G b s
section
variable {w w':World} {T p m N n f k:Nat} {G:Nat->Nat->Nat} {D:DataW Value} {l:Nat->Nat} {left:Lit->Bool}
theorem Hq.below(h:Hq w T p m G N D l n f left)(hb:Below w.heap.size w w'):Hq w' T p m G N D l n f left:=
 ⟨(hb.cell (qB h.c0)).trans h.c0,(hb.cell (qB h.c1)).trans h.c1,z0D h.own hb h.own.lt,h.dic,λb s z e q=>(h.rows b s z e q).below hb (h.rows b s z e q).lt,h.one,h.apart⟩
theorem Hq.done(h:Hq w T p m G N D l n f left)(hl:∀kl,left kl=false):Hp w T p m G N D l n f 0:=
 ⟨h.c0,h.c1,h.own,h.dic.congr (λb s=>by rw[if_neg (by rw[hl];simp)]),λb s z e=>h.rows b s z e (hl _),λb s z b' s' z' e e'=>h.one b s z b' s' z' e e' (hl _) (hl _),λb s z e=>h.apart b s z e (hl _)⟩
theorem Hq.step{b s z g:Nat}(h:Hq w T p m G N D l n f left)(hz:sz l n f b s n=some z)(hb:b<=18446744073709551615)(hs:s<=9223372036854775807)(hbd:∀b s z,sz l n f b s n=some z->b<=18446744073709551615/\s<=9223372036854775807)
 {D':DataW Value} (ho:w'.ownsMap prog 406 z9s m (N+1) D') (hd:Dic D' zes (λb' s'=>if b'=b/\s'=s then some (g,2^z) else if left (rk b' s')=true then none else(sz l n f b' s' n).map λz=>(G b' s',2^z)))
 (hk:Kept (λj=>j=m) w w') (hr:Hrow w' g (2^z) (λ_=>(0,0))) (hg:w.heap.size<=g) (hT:T<=g) (hpm:p≠m):
 Hq w' T p m (λb' s'=>if b'=b/\s'=s then g else G b' s') (N+1) D' l n f (λx=>left x&& !x.sameKey (rk b s)):=by
 have key:∀b' s' z',sz l n f b' s' n=some z'->((left (rk b' s')&& !(rk b' s').sameKey (rk b s))=false↔(left (rk b' s')=false\/(b'=b/\s'=s))):=by
  intro b' s' z' e;obtain⟨d1,d2⟩:=hbd b' s' z' e;by_cases q:b'=b/\s'=s
  · obtain⟨rfl,rfl⟩:=q
    rw[WideAt.sameKey_self (zar _ _)];simp
  · have:(rk b' s').sameKey (rk b s)=false:=Maps.sameKey_ne (λk=>q (zas d1 d2 hb hs k))
    rw[this];simp[q]
 have old:∀b' s' z',sz l n f b' s' n=some z'->left (rk b' s')=false->G b' s'<g:=λb' s' z' e q=>Nat.lt_of_lt_of_le (h.rows b' s' z' e q).lt hg
 have hplt:p<w.heap.size:=qB h.c0;have hmlt:=h.own.lt;refine⟨hk.cell h.c0 hpm,hk.cell h.c1 hpm,ho,hd.congr (λb' s'=> ?_),λb' s' z' e q=> ?_,λb1 s1 z1 b2 s2 z2 f1 f2 q1 q2 e=> ?_,λb' s' z' e q=> ?_⟩
 · by_cases q:b'=b/\s'=s
   · rw[if_pos q,if_neg (by rw[q.1,q.2,WideAt.sameKey_self (zar _ _)];simp),q.1,q.2,hz]
     simp
   · rw[if_neg q]
     cases e:sz l n f b' s' n with
     |none=>simp
     |some z'=>
      have hq:=key b' s' z' e;by_cases hl:left (rk b' s')=true
      · rw[if_pos hl,if_pos]
        apply Classical.byContradiction
        intro c;rcases hq.1 (by simpa using c) with c|c
        · rw[hl] at c;cases c
        · exact q c
      · have hl':left (rk b' s')=false:=by simpa using hl
        rw[if_neg hl,if_neg (by rw[hq.2 (.inl hl')];simp)];simp[q]
 · rcases(key b' s' z' e).1 q with c|c
   · by_cases c2:b'=b/\s'=s
     · rw[if_pos c2]
       obtain⟨rfl,rfl⟩:=c2;rw[hz] at e;injection e with e
       rw[<-e];exact hr
     · rw[if_neg c2]
       have ha:=h.apart b' s' z' e c;exact(h.rows b' s' z' e c).at' (hk.block _ (h.rows b' s' z' e c).lt (λq=>ha.2.1 q.symm))
   · rw[if_pos c]
     obtain⟨rfl,rfl⟩:=c;rw[hz] at e;injection e with e
     rw[<-e];exact hr
 · have k1:=(key b1 s1 z1 f1).1 q1
   have k2:=(key b2 s2 z2 f2).1 q2;by_cases c1:b1=b/\s1=s
   · by_cases c2:b2=b/\s2=s
     · omega
     · rw[if_pos c1,if_neg c2] at e
       have:=old b2 s2 z2 f2 (k2.resolve_right c2);omega
   · by_cases c2:b2=b/\s2=s
     · rw[if_neg c1,if_pos c2] at e
       have:=old b1 s1 z1 f1 (k1.resolve_right c1);omega
     · rw[if_neg c1,if_neg c2] at e
       exact h.one b1 s1 z1 b2 s2 z2 f1 f2 (k1.resolve_right c1) (k2.resolve_right c2) e
 · by_cases c:b'=b/\s'=s
   · rw[if_pos c]
     exact⟨by omega,by omega,hT⟩
   · rw[if_neg c]
     exact h.apart b' s' z' e (((key b' s' z' e).1 q).resolve_right c)
theorem Hq.iter{q:Nat}(h:Hq w T p m G N D l n f left)(hg:w.grownBy w' (some q))(hp:p≠q)(hm:m≠q)(hi:∃a b c d,w.heap[q]? =some (.mapIter a b c d)):Hq w' T p m G N D l n f left:=by
 have hk:Kept (λj=>j=q) w w':=(Kept.refl _ w).grown hg (λk hk=> .inl (by cases hk;rfl));refine⟨hk.cell h.c0 hp,hk.cell h.c1 hp,h.own.kept hg (λe=>hm (by cases e;rfl)),h.dic,λb s z e r=> ?_,h.one,h.apart⟩;have hr:=h.rows b s z e r;refine hr.at' (hk.block _ hr.lt (λe2=> ?_));obtain⟨a,b',c,d,hh⟩:=hi;obtain⟨c',h1,_⟩:=hr;rw[e2,hh] at h1;cases h1
theorem z6i{H:Type}{P:Program}{k:TypeId}{R:Value->Option (DataW H×List MemPlace)}{w:World}{b r n cnt:Nat}{D:DataW H}{left:Lit->Bool}(h:w.ranges P k R b r n D left cnt):∃a b c d,w.heap[r]? =some (.mapIter a b c d):=by
 obtain⟨es,clock,since,seen,c0,_,_,_,_,hr,_⟩:=h;exact⟨_,_,_,_,hr⟩
theorem z6j{H:Type}{P:Program}{k:TypeId}{R:Value->Option (DataW H×List MemPlace)}{w:World}{b r n cnt:Nat}{D:DataW H}{left:Lit->Bool}(h:w.ranges P k R b r n D left cnt):w.drew.ranges P k R b r n D left cnt:=h
theorem Hq.drew(h:Hq w T p m G N D l n f left):Hq w.drew T p m G N D l n f left:=⟨h.c0,h.c1,h.own,h.dic,h.rows,h.one,h.apart⟩
theorem z9Z{l:Nat->Nat}{n f:Nat}(hf:f<=15):∀b s z,sz l n f b s n=some z->b<=32768/\s<=15:=λb s z h=>by
 have h2:2^f<=2^15:=Nat.pow_le_pow_right (by omega) hf;rcases z76 n z h with⟨a,c⟩|⟨a,c⟩<;>omega
end
theorem zdB{D:DataW Value}{f:Nat->Nat->Option Nat}(hd:Dic D zet f){x:Int×Int}{c:Int}{kl:Lit}{y:DataW Value×List MemPlace}(hk:keyOf prog 406 (.agg #[.int .u64 x.1,.int .i64 x.2])=some kl)
 (hv:plainElem prog 3 (.int .i64 c)=some y) (hat:∀zd,D.atKey kl zd=y.1):∃b s z:Nat,x=((b:Int),(s:Int))/\kl=rk b s/\f b s=some z/\c=(z:Int):=by
 obtain⟨b,s,z,h1,rfl⟩:=hd.only kl (Maps.has_true_of_atKey hat);obtain⟨d1,d2⟩:=hd.dom b s z h1;have e:=z2l.inj hk (z1C d1 d2);unfold z7m at e;injection e with e
 simp at e;have e2:=(hd.yes b s z h1 .nil).symm.trans (hat .nil);obtain⟨c',ec,rfl,_⟩:=plainElem_int_inv underlying3 hv;injection ec with _ ec
 subst ec;simp[zet] at e2;exact⟨b,s,z,by cases x;simp at e;rw[e.1,e.2],rfl,h1,e2.symm⟩
theorem new_ok_any(A:Option Addr)(n c:Nat)(l:Nat->Nat)(f:Nat)(W:World)(hl:∀i,l i<=255)(H:z0e W .u8 A n (λi=>(l i:Int)))(ht:Tbl l n)(h1:1<=f)(hf:f<=15):
 Calls prog 288 #[.slice A n c,.int .i64 f] W λe w'=> ∃T p m G N D,e=.returned (.tuple #[.pointer (some ⟨p,0,none⟩),.int .i64 0])/\W.heap.size<=p/\Hp w' T p m G N D l n f n/\Below W.heap.size W w':=by
 have hfit:=ht.fit;have hm:=hfit.1;have hn320:=hm.1;have hn:n<=maxLen:=(by unfold maxLen;omega);have HW:=qH (writes_any A n c l W hn hl H);obtain⟨HT,HM⟩:=qh2 ht hm;have he:erc l n=0/\z32 l n=n:=by
  rcases z3d (l:=l) (n:=n) with⟨a,_⟩|⟨a,_⟩|⟨_,_,a,b⟩
  · unfold Tbl at ht;omega
  · unfold Tbl at ht;omega
  · exact⟨a,b⟩
 rw[he.1,he.2] at HW;obtain⟨HH,HL⟩:=qh2 H hl;obtain⟨K,hK⟩:∃K,kind l n=K:=⟨_,rfl⟩
 have k3:((K:Int)==3)=false:=by
  rw[qN];unfold Tbl at ht;omega
 have HK:=qH hK;clear he H hl ht hm hfit;go_enter func288,ntmps288;go_wp2_with fail;refine HW.o.mono ?_;rintro e w1 ⟨A1,c1,rfl,hc1,hc2,hcd,b1,_⟩;obtain⟨B1,C1⟩:=qh2 b1 hcd;clear b1 hcd;go_wp2_with fail;refine(z1j A n c l _ hn HL.o (HH.o.below B1.o)).mono ?_;rintro e w2 ⟨rfl,b2⟩;rw[HK.o];have B2:=qbt B1 b2;have C2:=qH (C1.o.below b2);clear b2;have hmm:= @run_makeMap prog;go_wp2_with fail;clear hmm;obtain⟨m,hmn⟩:∃m,w2.heap.size=m:=⟨_,rfl⟩
 obtain⟨p,hpn⟩:∃p,m+1=p:=⟨_,rfl⟩
 have o3:((w2.alloc (.map #[] 0)).alloc (.cells #[.int .i64 f,.map (some w2.heap.size)] 402)).ownsMap prog 406 z9s w2.heap.size 0 (.map []):=(World.ownsMap_made w2 prog 406 z9s).alloc _;have b3:=((Below.refl w2.heap.size w2).alloc qR (.map #[] 0)).alloc (by simp) (.cells #[.int .i64 f,.map (some w2.heap.size)] 402);have p0:((w2.alloc (.map #[] 0)).alloc (.cells #[.int .i64 f,.map (some w2.heap.size)] 402)).cell? ⟨w2.heap.size+1,0,none⟩=some (.int .i64 f):=(by simp);have p1:((w2.alloc (.map #[] 0)).alloc (.cells #[.int .i64 f,.map (some w2.heap.size)] 402)).cell? ⟨w2.heap.size+1,1,none⟩=some (.map (some w2.heap.size)):=(by simp);have s3:((w2.alloc (.map #[] 0)).alloc (.cells #[.int .i64 f,.map (some w2.heap.size)] 402)).heap.size=w2.heap.size+2:=(by simp);generalize (w2.alloc (.map #[] 0)).alloc (.cells #[.int .i64 f,.map (some w2.heap.size)] 402)=w3 at o3 b3 p0 p1 s3 ⊢;rw[hmn] at o3 b3 p0 p1 s3 ⊢;rw[hpn] at p0 p1 ⊢;have C3:=qH (C2.o.below (by rw[hmn];exact b3));have B3:=qH b3;refine(z6d A1 n c1 l f w3 HM.o C3.o h1 hf).mono ?_;rintro e w4 ⟨rfl,Ns,Ds,hos,hNs,hds,b4⟩;obtain⟨OS,DS⟩:=qh2 hos hds;have B4:=qH (B3.o.trans (b4.mono (by omega)));have hri2:m+2<=w4.heap.size:=by have:=b4.size;omega
 have Q4:=qH (show Hq w4 m p m (λ_ _=>0) 0 (.map []) l n f (Maps.has Ds) from⟨(b4.cell (show p<w3.heap.size by omega)).trans p0,(b4.cell (show p<w3.heap.size by omega)).trans p1,z0D o3 b4 (by omega),
  (Dic.empty zes).congr (λb s=>by
   cases q:sz l n f b s n with
   |none=>simp
   |some z=>rw[if_pos (hds.has q)]),λb s z q h=>(by rw[hds.has q] at h;cases h),λb s z b' s' z' q q' h=>(by rw[hds.has q] at h;cases h),λb s z q h=>(by rw[hds.has q] at h;cases h)⟩)
 clear hos hds b3 b4 o3 p0 p1;generalize hms:w3.heap.size=ms at OS ⊢;go_wp2_with (first|(at_range;refine wpList_range_own _ rfl _ 403 rfl 406 3 z2l underlying403 _ ms Ns Ds rfl OS.o ?_;intro w5 hrg5 hg5 hs5))
 go_frame
 have cnt5:=OS.o.size_le;have RG:=qH hrg5;have Q5:=qH (Q4.o.below ⟨hg5.os,hg5.tape,hg5.output,hg5.size,λj hj=>hg5.block j hj (by simp)⟩);have B5:=qH (B4.o.grown hg5 (by have:=B4.o.size;omega) (λj hj=>by cases hj));clear hrg5 hg5 hs5;generalize hri:w4.heap.size=ri at RG hri2 ⊢
 go_loopw [9] (λ_ wr=> ∃left cnt G N D,wr.ranges prog 406 (plainElem prog 3) ms ri Ns Ds left cnt/\N+cnt<=n+1/\Hq wr m p m G N D l n f left/\Below m w2 wr) (λ_ wr=>wr.rangeLeft ms ri)
 case atStart=>exact⟨_,_,_,_,_,RG.o,by omega,Q5.o,B5.o⟩
 case round=>
  obtain⟨left,cnt,G,N,D,hrg,hNc,hq,hb⟩:=hrel;obtain⟨RGr,Qr,Br⟩:=qh3 hrg hq hb;clear hrg hq hb;go_wp2_with (first|(at_next;refine wpList_next_ranges _ rfl _ rfl 406 z2l (plainElem prog 3) (λx:Int×Int=> .agg #[.int .u64 x.1,.int .i64 x.2]) (Value.int .i64) (λkey kl h=>zix h) (λv y h=>by obtain⟨c,rfl,_⟩:=plainElem_int_inv underlying3 h;exact⟨c,rfl⟩) ms ri Ns Ds _ _ rfl RGr.o ?_ ?_))
  case refine_2=>
   intro x1 x2 c kl yd yp w6 cnt6 hkey hlk hv hat hrg6 hlt6 hg6 hs6 hen;obtain⟨b,s,z,hx12,rfl,hz,rfl⟩:=zdB DS.o (x:=(x1,x2)) (y:=(yd,yp)) hkey hv hat;obtain rfl:x1=(b:Int):=congrArg Prod.fst hx12;obtain rfl:x2=(s:Int):=congrArg Prod.snd hx12;have hb:=(z9Z hf b s z hz).1;have hs:=(z9Z hf b s z hz).2;have hz15:=z9X hf n HM.o.2 z hz;have I6:=qH (z6i RGr.o);have Q6:=qH (Qr.o.iter hg6 (by omega) (by omega) I6.o);have B6:=qH (Br.o.grown hg6 (by have:=Br.o.size;omega) (λj hj=>by cases hj;omega));obtain⟨RG6,hlt,HZ⟩:=qh3 hrg6 hlt6 hz;clear hx12 hkey hlk hv hat hrg6 hlt6 hg6 hs6 hz;go_wp2_with fail;have r0:=(R2.new w6 406 (.int .u64 b) (.int .i64 s)).drew.at0;have r1:=(R2.new w6 406 (.int .u64 b) (.int .i64 s)).drew.at1;have RG7:=qH (RG6.o.alloc (.cells #[.int .u64 b,.int .i64 s] 406));have b7:=((Below.refl w6.heap.size w6).alloc qR (.cells #[.int .u64 b,.int .i64 s] 406));have Q7:=qH (Q6.o.below b7).drew;have B7:=qH ((B6.o.trans (b7.mono (by have:=B6.o.size;omega))).drew);have p1:=Q7.o.c1;have hr9:m<w6.heap.size:=Nat.lt_of_lt_of_le (show m<ri by omega) (Nat.le_of_lt (RG6.o.lt));clear b7;generalize hr9n:w6.heap.size=r9 at r0 r1 hr9 ⊢;generalize w6.alloc (.cells #[.int .u64 b,.int .i64 s] 406)=w7 at r0 r1 RG7 Q7 B7 p1 ⊢;obtain⟨Z,hZ⟩:∃Z,2^z=Z:=⟨_,rfl⟩
   have hZ15:Z<=32768:=(by rw[<-hZ];exact(Nat.pow_le_pow_right (by omega) hz15:2^z<=2^15));have hsl:IntKind.i64.wrap (2^z)=(Z:Int):=by
    have:((2:Int)^z)=(Z:Int):=(by rw[<-hZ];push_cast;rfl);rw[this];exact IntWalk.i64_in _ ⟨by omega,by omega⟩
   have hpm:p≠m:=(by omega);refine z10 (λw'=>w'.cell? ⟨p,1,none⟩=some (.map (some m))/\w'.cell? ⟨r9,0,none⟩=some (.int .u64 b)/\w'.cell? ⟨r9,1,none⟩=some (.int .i64 s)) ⟨p1,r0,r1⟩ (λh0=> ?_)
   first
   |(refine take_no (i:=0) (d:=some 43) rfl rfl (by kernel_rfl) (by kernel_rfl) (by kernel_rfl) (λ_ _ _ h=>h) (by rfl) h0 ?_;(try simp only[Act.put,List.setIfInBounds_toArray,List.set_cons_zero,List.set_cons_succ]))
   |(refine z04 (i:=0) (d:=some 43) (v:= ?_) rfl rfl (by kernel_rfl) (by kernel_rfl) (by kernel_rfl) (λ_ _ _ h=>h) (by rfl) (λw hSw=> ?_) h0 ?_;rotate_left;(focus ((try dsimp only at hSw);go_simp;(try with_reducible rfl)));(try simp only[Act.put,List.setIfInBounds_toArray,List.set_cons_zero,List.set_cons_succ]))
   first
   |(refine take_no (i:=1) (d:=some 44) rfl rfl (by kernel_rfl) (by kernel_rfl) (by kernel_rfl) (λ_ _ _ h=>h) (by rfl) h0 ?_;(try simp only[Act.put,List.setIfInBounds_toArray,List.set_cons_zero,List.set_cons_succ]))
   |(refine z04 (i:=1) (d:=some 44) (v:= ?_) rfl rfl (by kernel_rfl) (by kernel_rfl) (by kernel_rfl) (λ_ _ _ h=>h) (by rfl) (λw hSw=> ?_) h0 ?_;rotate_left;(focus ((try dsimp only at hSw);go_simp;(try with_reducible rfl)));(try simp only[Act.put,List.setIfInBounds_toArray,List.set_cons_zero,List.set_cons_succ]))
   first
   |(refine take_no (i:=2) (d:=some 45) rfl rfl (by kernel_rfl) (by kernel_rfl) (by kernel_rfl) (λ_ _ _ h=>h) (by rfl) h0 ?_;(try simp only[Act.put,List.setIfInBounds_toArray,List.set_cons_zero,List.set_cons_succ]))
   |(refine z04 (i:=2) (d:=some 45) (v:= ?_) rfl rfl (by kernel_rfl) (by kernel_rfl) (by kernel_rfl) (λ_ _ _ h=>h) (by rfl) (λw hSw=> ?_) h0 ?_;rotate_left;(focus ((try dsimp only at hSw);go_simp;(try with_reducible rfl)));(try simp only[Act.put,List.setIfInBounds_toArray,List.set_cons_zero,List.set_cons_succ]))
   first
   |(refine take_no (i:=3) (d:=some 46) rfl rfl (by kernel_rfl) (by kernel_rfl) (by kernel_rfl) (λ_ _ _ h=>h) (by rfl) h0 ?_;(try simp only[Act.put,List.setIfInBounds_toArray,List.set_cons_zero,List.set_cons_succ]))
   |(refine z04 (i:=3) (d:=some 46) (v:= ?_) rfl rfl (by kernel_rfl) (by kernel_rfl) (by kernel_rfl) (λ_ _ _ h=>h) (by rfl) (λw hSw=> ?_) h0 ?_;rotate_left;(focus ((try dsimp only at hSw);go_simp;(try with_reducible rfl)));(try simp only[Act.put,List.setIfInBounds_toArray,List.set_cons_zero,List.set_cons_succ]))
   first
   |(refine take_no (i:=4) (d:=some 47) rfl rfl (by kernel_rfl) (by kernel_rfl) (by kernel_rfl) (λ_ _ _ h=>h) (by rfl) h0 ?_;(try simp only[Act.put,List.setIfInBounds_toArray,List.set_cons_zero,List.set_cons_succ]))
   |(refine z04 (i:=4) (d:=some 47) (v:= ?_) rfl rfl (by kernel_rfl) (by kernel_rfl) (by kernel_rfl) (λ_ _ _ h=>h) (by rfl) (λw hSw=> ?_) h0 ?_;rotate_left;(focus ((try dsimp only at hSw);go_simp;(try with_reducible rfl)));(try simp only[Act.put,List.setIfInBounds_toArray,List.set_cons_zero,List.set_cons_succ]))
   first
   |(refine take_no (i:=5) (d:=some 48) rfl rfl (by kernel_rfl) (by kernel_rfl) (by kernel_rfl) (λ_ _ _ h=>h) (by rfl) h0 ?_;(try simp only[Act.put,List.setIfInBounds_toArray,List.set_cons_zero,List.set_cons_succ]))
   |(refine z04 (i:=5) (d:=some 48) (v:= ?_) rfl rfl (by kernel_rfl) (by kernel_rfl) (by kernel_rfl) (λ_ _ _ h=>h) (by rfl) (λw hSw=> ?_) h0 ?_;rotate_left;(focus ((try dsimp only at hSw);go_simp;(try with_reducible rfl)));(try simp only[Act.put,List.setIfInBounds_toArray,List.set_cons_zero,List.set_cons_succ]))
   first
   |(refine take_no (i:=6) (d:=some 49) rfl rfl (by kernel_rfl) (by kernel_rfl) (by kernel_rfl) (λ_ _ _ h=>h) (by rfl) h0 ?_;(try simp only[Act.put,List.setIfInBounds_toArray,List.set_cons_zero,List.set_cons_succ]))
   |(refine z04 (i:=6) (d:=some 49) (v:= ?_) rfl rfl (by kernel_rfl) (by kernel_rfl) (by kernel_rfl) (λ_ _ _ h=>h) (by rfl) (λw hSw=> ?_) h0 ?_;rotate_left;(focus ((try dsimp only at hSw);go_simp;(try with_reducible rfl)));(try simp only[Act.put,List.setIfInBounds_toArray,List.set_cons_zero,List.set_cons_succ]))
   refine z0s (i:=7) (by kernel_rfl) rfl (λK hK=> ?_);rw[if_pos (by rfl)]
   try rw[hsl]
   refine z52 (some 50) rfl 407 (.tmp 49) (.tmp 49) rfl (.int .i64 Z) (.int .i64 Z) _ rfl rfl (zdM _ Z hZ15) ?_
   refine hK.out _ _ ⟨z0A h0.1 _,z0A h0.2.1 _,z0A h0.2.2 _⟩ (λh1=> ?_);clear hK K
   (try simp only[Act.put,List.setIfInBounds_toArray,List.set_cons_zero,List.set_cons_succ])
   refine z0s (i:=8) (by kernel_rfl) rfl (λK hK=> ?_);rw[if_pos (by rfl)];obtain⟨w9,D9,hst,o9,d9,g9⟩:=zim (Q7.o.own.alloc (.cells (madeCells #[.int .u16 0,.int .u8 0] (Z*2)) 410)) Q7.o.dic (b:=b) (s:=s) (by omega) (by omega) (by unfold maxLen;omega) (w7.drew.heap.size,Z);have K9:=((Kept.refl (λj=>j=m) w7.drew).alloc (.cells (madeCells #[.int .u16 0,.int .u8 0] (Z*2)) 410)).grown g9 (λk hk=> .inl (by cases hk;rfl));have c9:=K9.cell h0.1 hpm;have d0:=K9.cell h0.2.1 (show r9≠m by omega);have d1:=K9.cell h0.2.2 (show r9≠m by omega);refine z63 none rfl 400 (.tmp 46) (.tmp 47) (.tmp 50) rfl _ _ _ rfl rfl rfl hst ?_
   refine hK.out _ _ ⟨c9,d0,d1⟩ (λh2=> ?_);clear hK K
   (try simp only[Act.put,List.setIfInBounds_toArray,List.set_cons_zero,List.set_cons_succ])
   refine wpAnyH_done (by kernel_rfl) ?_ _;clear h0 h1 h2 c9 d0 d1 r0 r1 p1;have RG9:=qH (((z6j RG7.o).alloc (.cells (madeCells #[.int .u16 0,.int .u8 0] (Z*2)) 410)).kept g9 (λe=>by cases e;omega) (λe=>by cases e;omega));have hrow:Hrow w9 w7.drew.heap.size (2^z) (λ_=>(0,0)):=by
    rw[hZ];have:=Hrow.made w7.drew Z;exact this.at' (g9.block _ this.lt (λe=>by cases e;have:=Q7.o.own.lt;omega))
   have Q9:=qH (Q7.o.step HZ.o (by omega) (by omega) (λb s z h=>by have:=z9Z hf b s z h;omega) o9 (by rw[hZ];exact d9) K9 hrow qR (by have:=B7.o.size;omega) hpm);have B9:=qH (B7.o.trans ((K9.below (B:=m) (by have:=B7.o.size;omega) (λj hj=>by omega))));clear K9 hrow o9 d9 g9 hst hen hsl;go_wp2_with fail;go_roundw
   case rel=>exact⟨_,cnt6,_,N+1,D9,RG9.o,by have:=hlt.o;omega,Q9.o,B9.o⟩
   case measure=>rw[RG9.o.left_eq,RGr.o.left_eq];exact hlt.o
  case refine_1=>
   intro hc0 hl0;have P0:=qH (Qr.o.done hl0);clear hc0 hl0;go_wp2_with fail
   go_loopw [53] (λv w'=> ∃k:Nat,k<=n/\v=.int .i64 k/\Hp w' m p m G N D l n f k/\Below m w2 w') (λv _=>n - (intOf v).toNat)
   case atStart=>exact⟨0,qZ,rfl,P0.o,Br.o⟩
   case round=>
    obtain⟨k,hkn,rfl,hp,hb⟩:=hrel;obtain⟨HPk,HBk⟩:=qh2 hp hb;clear hp hb;by_cases hlt:k<n
    · obtain⟨b,o,rfl,hbs,hc⟩:=C2.o (by omega)
      have g1:=(HBk.o.cell (p:=⟨b,o+k*2,none⟩) (by rw[<-hmn];exact hbs)).trans (hc k hlt).1;have g2:=(HBk.o.cell (p:=⟨b,o+k*2+1,none⟩) (by rw[<-hmn];exact hbs)).trans (hc k hlt).2;have h15:=HM.o.2 k hlt;have hrs:=z4t (l:=l) (n:=n) (i:=k) h15;have hkk:((k:Int)).toNat=k:=(by omega);have HPT:=qH (λw H h0 hT=>z8N m p m N n f k G D l w HM.o h1 hf hlt h0 H hT);obtain⟨x,hx⟩:∃x,rc l n k=x:=⟨_,rfl⟩
      obtain⟨z,hz⟩:∃z,l k=z:=⟨_,rfl⟩
      rw[hx] at g1 hrs;rw[hz] at g2 h15;rw[hx,hz] at HPT;have hms2:=HBk.o.size;clear hc;by_cases h0:z=0
      · subst h0
        go_wp2_with fail;go_roundw
        case rel=>
         refine⟨k+1,by omega,by go_num,(HPk.o.below (qL)).congr (λb s x=> ?_),HBk.o.alloc (by omega) _⟩;simp only[cv];rw[if_neg (λq=>q.1 hz)]
        case measure=>simp[intOf];omega
      · have d0:decide (0<(z:Int))=true:=q9T (by omega)
        have d1:decide (0<z)=true:=q9T (by omega);go_wp2_with fail;refine(HPT.o _ (HPk.o.below (qL)) h0 (by simp;omega)).mono ?_;rintro e w6 ⟨rfl,hp6,hb6⟩;have P6:=qH hp6;have B6:=qH ((HBk.o.alloc (by omega) _).trans hb6);clear hp6 hb6;go_wp2_with fail;go_roundw
        case rel=>exact⟨k+1,by omega,by go_num,P6.o,B6.o⟩
        case measure=>simp[intOf];omega
    · obtain rfl:k=n:=by omega
      go_wp2_with fail;go_ret2;exact⟨m,p,m,G,N,D,rfl,by have:=B2.o.size;omega,HPk.o,B2.o.trans (HBk.o.mono (by have:=B2.o.size;omega))⟩
def nerr(l:Nat->Nat)(n:Nat)(x:Int):Nat:=if ¬(1<=x/\x<=15)\/kind l n=5 then 2 else if kind l n=4\/kind l n=3 then 7 else 0
theorem nerr_ok{l:Nat->Nat}{n:Nat}{x:Int}(h:nerr l n x=0):(1<=x/\x<=15)/\Tbl l n:=by
 unfold nerr at h;have:=zbm l n;by_cases a:¬(1<=x/\x<=15)\/kind l n=5
 · rw[if_pos a] at h;omega
 · rw[if_neg a] at h
   by_cases b:kind l n=4\/kind l n=3
   · rw[if_pos b] at h;omega
   · unfold Tbl;omega
theorem z4A(A:Option Addr)(n c:Nat)(x:Int)(W:World)(hx:¬(1<=x/\x<=15)):
 Calls prog 288 #[.slice A n c,.int .i64 x] W λe w'=>e=.returned (.tuple #[.pointer none,.int .i64 2])/\w'=W:=by
 by_cases h:x<1
 · go_enter func288,ntmps288
   go_wp2_with fail;go_ret2;exact⟨rfl,rfl⟩
 · have h2:15<x:=by omega
   go_enter func288,ntmps288;go_wp2_with fail;go_ret2;exact⟨rfl,rfl⟩
theorem z1O(A:Option Addr)(n c:Nat)(l:Nat->Nat)(f:Nat)(W:World)(hn:n<=maxLen)(hl:∀i,l i<=255)(H:z0e W .u8 A n (λi=>(l i:Int)))(h1:1<=f)(hf:f<=15)(E:Nat)(hE:erc l n=E)(h0:E≠0):
 Calls prog 288 #[.slice A n c,.int .i64 f] W λe w'=>e=.returned (.tuple #[.pointer none,.int .i64 E])/\Below W.heap.size W w':=by
 have HW:=qH (writes_any A n c l W hn hl H);rw[hE] at HW;have hz:z32 l n=0:=(by unfold z32;rw[hE,if_neg h0]);rw[hz] at HW;have d1:((E:Int) !=0)=true:=(by rw[bne_iff_ne];omega);clear hz H hl;go_enter func288,ntmps288;go_wp2_with fail;refine HW.o.mono ?_;rintro e w1 ⟨A1,c1,rfl,hc1,hc2,hcd,b1,_⟩;have B1:=qH b1;clear b1 hcd;go_wp2_with fail;go_ret2;exact⟨rfl,B1.o⟩
theorem z5C(A:Option Addr)(n c:Nat)(l:Nat->Nat)(f:Nat)(W:World)(hn:n<=maxLen)(hl:∀i,l i<=255)(H:z0e W .u8 A n (λi=>(l i:Int)))(h1:1<=f)(hf:f<=15)(hk:kind l n=3):
 Calls prog 288 #[.slice A n c,.int .i64 f] W λe w'=>e=.returned (.tuple #[.pointer none,.int .i64 7])/\Below W.heap.size W w':=by
 have HW:=qH (writes_any A n c l W hn hl H);have he:erc l n=0:=by
  rcases z3d (l:=l) (n:=n) with⟨a,_⟩|⟨a,_⟩|⟨_,_,a,b⟩
  · omega
  · omega
  · exact a
 rw[he] at HW;obtain⟨HH,HL,HK⟩:=qh3 H hl hk;clear he H hl hk;go_enter func288,ntmps288;go_wp2_with fail;refine HW.o.mono ?_;rintro e w1 ⟨A1,c1,rfl,hc1,hc2,hcd,b1,_⟩;have B1:=qH b1;clear b1 hcd;go_wp2_with fail;refine(z1j A n c l _ hn HL.o (HH.o.below B1.o)).mono ?_;rintro e w2 ⟨rfl,b2⟩;rw[HK.o];have B2:=qbt B1 b2;clear b2;go_wp2_with fail;go_ret2;exact⟨rfl,B2.o⟩
theorem new_no_any(A:Option Addr)(n c:Nat)(l:Nat->Nat)(x:Int)(W:World)(hn:n<=maxLen)(hl:∀i,l i<=255)(H:z0e W .u8 A n (λi=>(l i:Int)))(h:nerr l n x≠0):
 Calls prog 288 #[.slice A n c,.int .i64 x] W λe w'=>e=.returned (.tuple #[.pointer none,.int .i64 (nerr l n x:Nat)])/\Below W.heap.size W w':=by
 by_cases hx:1<=x/\x<=15
 · obtain⟨f,rfl⟩:=Int.eq_ofNat_of_zero_le (show 0<=x by omega)
   have h1:1<=f:=(by omega);have h2:f<=15:=(by omega);rcases z3d (l:=l) (n:=n) with⟨a,e,_⟩|⟨a,e,_⟩|⟨a,b,e,_⟩
   · have:nerr l n (f:Int)=2:=by unfold nerr;rw[if_pos (.inr a)]
     rw[this];exact z1O A n c l f W hn hl H h1 h2 2 e (by decide)
   · have:nerr l n (f:Int)=7:=by unfold nerr;rw[if_neg (by omega),if_pos (.inl a)]
     rw[this];exact z1O A n c l f W hn hl H h1 h2 7 e (by decide)
   · by_cases k3:kind l n=3
     · have:nerr l n (f:Int)=7:=by unfold nerr;rw[if_neg (by omega),if_pos (.inr k3)]
       rw[this];exact z5C A n c l f W hn hl H h1 h2 k3
     · exfalso;apply h;unfold nerr;rw[if_neg (by omega),if_neg (by omega)]
 · have:nerr l n x=2:=by unfold nerr;rw[if_pos (.inl hx)]
   rw[this];exact(z4A A n c x W hx).mono λe w' ⟨a,b⟩=>⟨a,by rw[b];exact Below.refl _ _⟩
theorem z6P(X:Nat)(W:World)(hX:X<big):
 Calls prog 334 #[.slice none 0 0,.int .u64 X] W λe w'=>e=.returned (.agg #[.int .u16 0,.int .u8 0])/\Below W.heap.size W w':=by
 have HR:=qH (R2.new W 410 (.int .u16 0) (.int .u8 0));go_enter func334,ntmps334;go_wp2_with fail;exact bodyPost_ret (v:=.agg #[.int .u16 0,.int .u8 0]) (results_cell_row rfl _ _ W.heap.size _ _ _ _ rfl HR.o.row underlying410 rfl z2G) rfl ⟨rfl,qL⟩
theorem z3m(g z X:Nat)(F:Nat->Nat×Nat)(W:World)(hX:X<big)(hz:z<=15)(H:Hrow W g (2^z) F):
 Calls prog 334 #[.slice (some ⟨g,0,none⟩) (2^z) (2^z),.int .u64 X] W λe w'=>e=.returned (.agg #[.int .u16 (F (X%2^z)).1,.int .u8 (F (X%2^z)).2])/\Below W.heap.size W w':=by
 have hm:=z2K X z hX (by omega);have hlt:X%2^z<2^z:=Nat.mod_lt _ (Nat.two_pow_pos z);have hZ15:2^z<=2^15:=Nat.pow_le_pow_right (by omega) hz;have hZ1:1<=2^z:=Nat.one_le_two_pow;have c1:=H.cell1 hlt;have c2:=H.cell2 hlt;obtain⟨Z,hZ⟩:∃Z,2^z=Z:=⟨_,rfl⟩
 have hmk:((Z:Int) - 1)=(mk z:Int):=(by unfold mk;rw[hZ];omega);obtain⟨M,hM⟩:∃M,mk z=M:=⟨_,rfl⟩
 rw[hZ] at c1 c2 hm hlt hZ15 hZ1 ⊢;rw[hM] at hm hmk;generalize hy:X%Z=y at c1 c2 hm hlt ⊢;obtain⟨a,ha⟩:∃a,(F y).1=a:=⟨_,rfl⟩
 obtain⟨b,hb⟩:∃b,(F y).2=b:=⟨_,rfl⟩
 rw[ha] at c1 ⊢;rw[hb] at c2 ⊢;have d0:((Z:Int)==0)=false:=(by rw[qN];omega);have hMb:0<=(M:Int)/\(M:Int)<=32768:=(by omega);have hyy:((y:Int)).toNat=y:=(by omega);have e1:=z0A c1 (.cells #[.int .u16 0,.int .u8 0] 410);have e2:=z0A c2 (.cells #[.int .u16 0,.int .u8 0] 410);have HR:=qH (R2.new W 410 (.int .u16 a) (.int .u8 b));clear hZ hM hy ha hb H hX hZ15;go_enter func334,ntmps334;go_wp2_with fail;exact bodyPost_ret (v:=.agg #[.int .u16 a,.int .u8 b]) (results_cell_row rfl _ _ W.heap.size _ _ _ _ rfl HR.o.row underlying410 rfl z2G) rfl ⟨rfl,qL⟩
theorem Hp.drew{w:World}{T p m N n f k:Nat}{G:Nat->Nat->Nat}{D:DataW Value}{l:Nat->Nat}(h:Hp w T p m G N D l n f k):Hp w.drew T p m G N D l n f k:=⟨h.c0,h.c1,h.own,h.dic,h.rows,h.one,h.apart⟩
theorem zeg(T p m N n f X:Nat)(G:Nat->Nat->Nat)(D:DataW Value)(l:Nat->Nat)(W:World)(hfit:Fit l n)(h1:1<=f)(hf:f<=15)(hX:X<big)(H:Hp W T p m G N D l n f n):
 Calls prog 316 #[.pointer (some ⟨p,0,none⟩),.int .u64 X] W λe w'=>e=.returned (.agg #[.int .u16 (fnd l n X n).1,.int .u8 (fnd l n X n).2])/\Below W.heap.size W w':=by
 have hr0:=z9W (l:=l) (n:=n) h1 n;have HH:=qH H;have hp0:=H.c0;have hlk0:∀w,Hp w T p m G N D l n f n->(Instr.lookup 400 (.map (some m)) (.agg #[.int .u64 0,.int .i64 0]) false).run prog w=.ok (.slice (some ⟨G 0 0,0,none⟩) (2^f) (2^f)) w:=λw h=>by
  have:=zh6 h.own h.dic (b:=0) (s:=0) (by omega) (by omega);rw[hr0] at this;exact this
 have HA:=qH (λw (h:Hp w T p m G N D l n f n)=>z3m (G 0 0) f X (λx=>cv l n f 0 0 x n) w hX hf (h.rows 0 0 f hr0));have hpl:p<W.heap.size:=qB hp0;have H1:Hp (W.alloc (.cells #[.int .u16 0,.int .u8 0] 410)) T p m G N D l n f n:=H.below (qL);have l1:=hlk0 _ H1;have p11:=H1.c1;have HH1:=qH H1;have B1:=qH ((Below.refl W.heap.size W).alloc qR (.cells #[.int .u16 0,.int .u8 0] 410));have R1:=qH (R2.new W 410 (.int .u16 0) (.int .u8 0));obtain⟨c1,hc1⟩:∃c1,(cv l n f 0 0 (X%2^f) n).1=c1:=⟨_,rfl⟩
 obtain⟨c2,hc2⟩:∃c2,(cv l n f 0 0 (X%2^f) n).2=c2:=⟨_,rfl⟩
 have hcs:=zeu (l:=l) (f:=f) (b:=0) (s:=0) (x:=X%2^f) hfit.1 (Nat.le_refl n);rw[hc1,hc2] at HA hcs;obtain⟨F,hF⟩:∃F,2^f=F:=⟨_,rfl⟩
 obtain⟨g0,hg0⟩:∃g0,G 0 0=g0:=⟨_,rfl⟩
 rw[hF,hg0] at HA l1;obtain⟨a,ha⟩:∃a,(fnd l n X n).1=a:=⟨_,rfl⟩
 obtain⟨d,hd⟩:∃d,(fnd l n X n).2=d:=⟨_,rfl⟩
 rw[ha,hd];clear hlk0 H H1;go_enter func316,ntmps316;go_wp2_with fail;refine(HA.o _ HH1.o).mono ?_;rintro e w3 ⟨rfl,b3⟩;have H3:=qH (HH1.o.below b3);have B3:=qbt B1 b3;have R3:=qH (R1.o.below b3 R1.o.lt);clear b3 l1 p11;by_cases hc0:c2=0
 · have HF:=qH (λw=>z3b X f w hX (by omega))
   have hq:X/2^f<big:=Nat.lt_of_le_of_lt (Nat.div_le_self _ _) hX
   obtain⟨V,hlk,HC⟩:∃V,(∀w,w.ownsMap prog 406 z9s m N D->(Instr.lookup 400 (.map (some m)) (.agg #[.int .u64 (X%2^f:Nat),.int .i64 f]) false).run prog w=.ok V w)/\
    Hd (∀w,Hp w T p m G N D l n f n->Calls prog 334 #[V,.int .u64 (X/2^f:Nat)] w λe w'=>e=.returned (.agg #[.int .u16 (fnd l n X n).1,.int .u8 (fnd l n X n).2])/\Below w.heap.size w w'):=by
    have hb:X%2^f<2^f:=Nat.mod_lt _ (Nat.two_pow_pos f);have hb2:2^f<=2^15:=Nat.pow_le_pow_right (by omega) hf;refine⟨slo ((sz l n f (X%2^f) f n).map λz=>(G (X%2^f) f,2^z)),λw h=>zh6 h HH.o.dic (b:=X%2^f) (s:=f) (by omega) (by omega),qH (λw h=> ?_)⟩;cases hs:sz l n f (X%2^f) f n with
    |none=>
     rw[zef h1 (by rw[hc2];exact hc0) hs];exact z6P _ w hq
    |some mz=>
     rw[z6I hfit h1 (by rw[hc2];exact hc0) hs];exact z3m _ mz _ (λx=>cv l n f (X%2^f) f x n) w hq (z9X hf n hfit.1.2 mz hs) (h.rows _ _ mz hs)
   obtain⟨y,hy⟩:∃y,X%2^f=y:=⟨_,rfl⟩
   obtain⟨v,hv⟩:∃v,X/2^f=v:=⟨_,rfl⟩
   have hshr:(X:Int) /2^f=(v:Int):=(by rw[<-hv];push_cast;rfl);rw[hy] at hlk HF;rw[hv,ha,hd] at HC;clear hF;go_wp2_with fail;have B5:=B3.o.alloc B3.o.size (.cells #[.int .u16 c1,.int .u8 0] 410);have H5:=H3.o.below ((Below.refl w3.heap.size w3).alloc qR (.cells #[.int .u16 c1,.int .u8 0] 410));have R5:=R3.o.alloc (.cells #[.int .u16 c1,.int .u8 0] 410);generalize w3.alloc (.cells #[.int .u16 c1,.int .u8 0] 410)=w5 at B5 H5 R5 ⊢;refine z10 (λw'=>w'.cell? ⟨p,0,none⟩=some (.int .i64 f)/\w'.cell? ⟨p,1,none⟩=some (.map (some m))/\(Instr.lookup 400 (.map (some m)) (.agg #[.int .u64 y,.int .i64 f]) false).run prog w'=.ok V w') ⟨H5.c0,H5.c1,hlk _ H5.drew.own⟩ (λh0=> ?_)
   first
   |(refine take_no (i:=0) (d:=some 18) rfl rfl (by kernel_rfl) (by kernel_rfl) (by kernel_rfl) (λ_ _ _ h=>h) (by rfl) h0 ?_;(try simp only[Act.put,List.setIfInBounds_toArray,List.set_cons_zero,List.set_cons_succ]))
   |(refine z04 (i:=0) (d:=some 18) (v:= ?_) rfl rfl (by kernel_rfl) (by kernel_rfl) (by kernel_rfl) (λ_ _ _ h=>h) (by rfl) (λw hSw=> ?_) h0 ?_;rotate_left;(focus ((try dsimp only at hSw);go_simp;(try with_reducible rfl)));(try simp only[Act.put,List.setIfInBounds_toArray,List.set_cons_zero,List.set_cons_succ]))
   first
   |(refine take_no (i:=1) (d:=some 19) rfl rfl (by kernel_rfl) (by kernel_rfl) (by kernel_rfl) (λ_ _ _ h=>h) (by rfl) h0 ?_;(try simp only[Act.put,List.setIfInBounds_toArray,List.set_cons_zero,List.set_cons_succ]))
   |(refine z04 (i:=1) (d:=some 19) (v:= ?_) rfl rfl (by kernel_rfl) (by kernel_rfl) (by kernel_rfl) (λ_ _ _ h=>h) (by rfl) (λw hSw=> ?_) h0 ?_;rotate_left;(focus ((try dsimp only at hSw);go_simp;(try with_reducible rfl)));(try simp only[Act.put,List.setIfInBounds_toArray,List.set_cons_zero,List.set_cons_succ]))
   first
   |(refine take_no (i:=2) (d:=some 20) rfl rfl (by kernel_rfl) (by kernel_rfl) (by kernel_rfl) (λ_ _ _ h=>h) (by rfl) h0 ?_;(try simp only[Act.put,List.setIfInBounds_toArray,List.set_cons_zero,List.set_cons_succ]))
   |(refine z04 (i:=2) (d:=some 20) (v:= ?_) rfl rfl (by kernel_rfl) (by kernel_rfl) (by kernel_rfl) (λ_ _ _ h=>h) (by rfl) (λw hSw=> ?_) h0 ?_;rotate_left;(focus ((try dsimp only at hSw);go_simp;(try with_reducible rfl)));(try simp only[Act.put,List.setIfInBounds_toArray,List.set_cons_zero,List.set_cons_succ]))
   first
   |(refine take_no (i:=3) (d:=some 21) rfl rfl (by kernel_rfl) (by kernel_rfl) (by kernel_rfl) (λ_ _ _ h=>h) (by rfl) h0 ?_;(try simp only[Act.put,List.setIfInBounds_toArray,List.set_cons_zero,List.set_cons_succ]))
   |(refine z04 (i:=3) (d:=some 21) (v:= ?_) rfl rfl (by kernel_rfl) (by kernel_rfl) (by kernel_rfl) (λ_ _ _ h=>h) (by rfl) (λw hSw=> ?_) h0 ?_;rotate_left;(focus ((try dsimp only at hSw);go_simp;(try with_reducible rfl)));(try simp only[Act.put,List.setIfInBounds_toArray,List.set_cons_zero,List.set_cons_succ]))
   first
   |(refine take_no (i:=4) (d:=some 22) rfl rfl (by kernel_rfl) (by kernel_rfl) (by kernel_rfl) (λ_ _ _ h=>h) (by rfl) h0 ?_;(try simp only[Act.put,List.setIfInBounds_toArray,List.set_cons_zero,List.set_cons_succ]))
   |(refine z04 (i:=4) (d:=some 22) (v:= ?_) rfl rfl (by kernel_rfl) (by kernel_rfl) (by kernel_rfl) (λ_ _ _ h=>h) (by rfl) (λw hSw=> ?_) h0 ?_;rotate_left;(focus ((try dsimp only at hSw);go_simp;(try with_reducible rfl)));(try simp only[Act.put,List.setIfInBounds_toArray,List.set_cons_zero,List.set_cons_succ]))
   first
   |(refine take_no (i:=5) (d:=some 23) rfl rfl (by kernel_rfl) (by kernel_rfl) (by kernel_rfl) (λ_ _ _ h=>h) (by rfl) h0 ?_;(try simp only[Act.put,List.setIfInBounds_toArray,List.set_cons_zero,List.set_cons_succ]))
   |(refine z04 (i:=5) (d:=some 23) (v:= ?_) rfl rfl (by kernel_rfl) (by kernel_rfl) (by kernel_rfl) (λ_ _ _ h=>h) (by rfl) (λw hSw=> ?_) h0 ?_;rotate_left;(focus ((try dsimp only at hSw);go_simp;(try with_reducible rfl)));(try simp only[Act.put,List.setIfInBounds_toArray,List.set_cons_zero,List.set_cons_succ]))
   first
   |(refine take_no (i:=6) (d:=some 24) rfl rfl (by kernel_rfl) (by kernel_rfl) (by kernel_rfl) (λ_ _ _ h=>h) (by rfl) h0 ?_;(try simp only[Act.put,List.setIfInBounds_toArray,List.set_cons_zero,List.set_cons_succ]))
   |(refine z04 (i:=6) (d:=some 24) (v:= ?_) rfl rfl (by kernel_rfl) (by kernel_rfl) (by kernel_rfl) (λ_ _ _ h=>h) (by rfl) (λw hSw=> ?_) h0 ?_;rotate_left;(focus ((try dsimp only at hSw);go_simp;(try with_reducible rfl)));(try simp only[Act.put,List.setIfInBounds_toArray,List.set_cons_zero,List.set_cons_succ]))
   first
   |(refine take_no (i:=7) (d:=some 25) rfl rfl (by kernel_rfl) (by kernel_rfl) (by kernel_rfl) (λ_ _ _ h=>h) (by rfl) h0 ?_;(try simp only[Act.put,List.setIfInBounds_toArray,List.set_cons_zero,List.set_cons_succ]))
   |(refine z04 (i:=7) (d:=some 25) (v:= ?_) rfl rfl (by kernel_rfl) (by kernel_rfl) (by kernel_rfl) (λ_ _ _ h=>h) (by rfl) (λw hSw=> ?_) h0 ?_;rotate_left;(focus ((try dsimp only at hSw);go_simp;(try with_reducible rfl)));(try simp only[Act.put,List.setIfInBounds_toArray,List.set_cons_zero,List.set_cons_succ]))
   first
   |(refine take_no (i:=8) (d:=some 26) rfl rfl (by kernel_rfl) (by kernel_rfl) (by kernel_rfl) (λ_ _ _ h=>h) (by rfl) h0 ?_;(try simp only[Act.put,List.setIfInBounds_toArray,List.set_cons_zero,List.set_cons_succ]))
   |(refine z04 (i:=8) (d:=some 26) (v:= ?_) rfl rfl (by kernel_rfl) (by kernel_rfl) (by kernel_rfl) (λ_ _ _ h=>h) (by rfl) (λw hSw=> ?_) h0 ?_;rotate_left;(focus ((try dsimp only at hSw);go_simp;(try with_reducible rfl)));(try simp only[Act.put,List.setIfInBounds_toArray,List.set_cons_zero,List.set_cons_succ]))
   first
   |(refine take_no (i:=11) (d:=some 29) rfl rfl (by kernel_rfl) (by kernel_rfl) (by kernel_rfl) (λ_ _ _ h=>h) (by rfl) h0 ?_;(try simp only[Act.put,List.setIfInBounds_toArray,List.set_cons_zero,List.set_cons_succ]))
   |(refine z04 (i:=11) (d:=some 29) (v:= ?_) rfl rfl (by kernel_rfl) (by kernel_rfl) (by kernel_rfl) (λ_ _ _ h=>h) (by rfl) (λw hSw=> ?_) h0 ?_;rotate_left;(focus ((try dsimp only at hSw);go_simp;(try with_reducible rfl)));(try simp only[Act.put,List.setIfInBounds_toArray,List.set_cons_zero,List.set_cons_succ]))
   first
   |(refine take_no (i:=12) (d:=some 30) rfl rfl (by kernel_rfl) (by kernel_rfl) (by kernel_rfl) (λ_ _ _ h=>h) (by rfl) h0 ?_;(try simp only[Act.put,List.setIfInBounds_toArray,List.set_cons_zero,List.set_cons_succ]))
   |(refine z04 (i:=12) (d:=some 30) (v:= ?_) rfl rfl (by kernel_rfl) (by kernel_rfl) (by kernel_rfl) (λ_ _ _ h=>h) (by rfl) (λw hSw=> ?_) h0 ?_;rotate_left;(focus ((try dsimp only at hSw);go_simp;(try with_reducible rfl)));(try simp only[Act.put,List.setIfInBounds_toArray,List.set_cons_zero,List.set_cons_succ]))
   first
   |(refine take_no (i:=13) (d:=some 31) rfl rfl (by kernel_rfl) (by kernel_rfl) (by kernel_rfl) (λ_ _ _ h=>h) (by rfl) h0 ?_;(try simp only[Act.put,List.setIfInBounds_toArray,List.set_cons_zero,List.set_cons_succ]))
   |(refine z04 (i:=13) (d:=some 31) (v:= ?_) rfl rfl (by kernel_rfl) (by kernel_rfl) (by kernel_rfl) (λ_ _ _ h=>h) (by rfl) (λw hSw=> ?_) h0 ?_;rotate_left;(focus ((try dsimp only at hSw);go_simp;(try with_reducible rfl)));(try simp only[Act.put,List.setIfInBounds_toArray,List.set_cons_zero,List.set_cons_succ]))
   first
   |(refine take_no (i:=14) (d:=some 32) rfl rfl (by kernel_rfl) (by kernel_rfl) (by kernel_rfl) (λ_ _ _ h=>h) (by rfl) h0 ?_;(try simp only[Act.put,List.setIfInBounds_toArray,List.set_cons_zero,List.set_cons_succ]))
   |(refine z04 (i:=14) (d:=some 32) (v:= ?_) rfl rfl (by kernel_rfl) (by kernel_rfl) (by kernel_rfl) (λ_ _ _ h=>h) (by rfl) (λw hSw=> ?_) h0 ?_;rotate_left;(focus ((try dsimp only at hSw);go_simp;(try with_reducible rfl)));(try simp only[Act.put,List.setIfInBounds_toArray,List.set_cons_zero,List.set_cons_succ]))
   first
   |(refine take_no (i:=15) (d:=some 33) rfl rfl (by kernel_rfl) (by kernel_rfl) (by kernel_rfl) (λ_ _ _ h=>h) (by rfl) h0 ?_;(try simp only[Act.put,List.setIfInBounds_toArray,List.set_cons_zero,List.set_cons_succ]))
   |(refine z04 (i:=15) (d:=some 33) (v:= ?_) rfl rfl (by kernel_rfl) (by kernel_rfl) (by kernel_rfl) (λ_ _ _ h=>h) (by rfl) (λw hSw=> ?_) h0 ?_;rotate_left;(focus ((try dsimp only at hSw);go_simp;(try with_reducible rfl)));(try simp only[Act.put,List.setIfInBounds_toArray,List.set_cons_zero,List.set_cons_succ]))
   first
   |(refine take_no (i:=16) (d:=some 34) rfl rfl (by kernel_rfl) (by kernel_rfl) (by kernel_rfl) (λ_ _ _ h=>h) (by rfl) h0 ?_;(try simp only[Act.put,List.setIfInBounds_toArray,List.set_cons_zero,List.set_cons_succ]))
   |(refine z04 (i:=16) (d:=some 34) (v:= ?_) rfl rfl (by kernel_rfl) (by kernel_rfl) (by kernel_rfl) (λ_ _ _ h=>h) (by rfl) (λw hSw=> ?_) h0 ?_;rotate_left;(focus ((try dsimp only at hSw);go_simp;(try with_reducible rfl)));(try simp only[Act.put,List.setIfInBounds_toArray,List.set_cons_zero,List.set_cons_succ]))
   refine z0s (i:=9) (by kernel_rfl) rfl (λK hK=> ?_);go_simp;refine(HF.o _).mono ?_;rintro e w6 ⟨rfl,b6⟩;have H6:=H5.drew.below b6;have r6:=R5.drew.below b6 R5.drew.lt;have B6:=B5.drew.trans (b6.mono B5.drew.size);have l6:=hlk w6 H6.own;refine hK.out _ _ ⟨H6.c0,H6.c1,l6⟩ (λh1=> ?_);clear hK K h0
   (try simp only[Act.put,List.setIfInBounds_toArray,List.set_cons_zero,List.set_cons_succ])
   first
   |(refine take_no (i:=10) (d:=some 28) rfl rfl (by kernel_rfl) (by kernel_rfl) (by kernel_rfl) (λ_ _ _ h=>h) (by rfl) h1 ?_;(try simp only[Act.put,List.setIfInBounds_toArray,List.set_cons_zero,List.set_cons_succ]))
   |(refine z04 (i:=10) (d:=some 28) (v:= ?_) rfl rfl (by kernel_rfl) (by kernel_rfl) (by kernel_rfl) (λ_ _ _ h=>h) (by rfl) (λw hSw=> ?_) h1 ?_;rotate_left;(focus ((try dsimp only at hSw);go_simp;(try with_reducible rfl)));(try simp only[Act.put,List.setIfInBounds_toArray,List.set_cons_zero,List.set_cons_succ]))
   refine z0s (i:=17) (by kernel_rfl) rfl (λK hK=> ?_);go_simp;refine(HC.o _ H6).mono ?_;rintro e w7 ⟨rfl,b7⟩;have H7:=H6.below b7;have r7:=r6.below b7 r6.lt;have B7:=B6.trans (b7.mono B6.size);have l7:=hlk w7 H7.own;refine hK.out _ _ ⟨H7.c0,H7.c1,l7⟩ (λh2=> ?_);clear hK K h1
   (try simp only[Act.put,List.setIfInBounds_toArray,List.set_cons_zero,List.set_cons_succ])
   refine z0s (i:=18) (by kernel_rfl) rfl (λK hK=> ?_);go_simp;have p4:p≠W.heap.size:=(by have:=qB HH.o.c0;simp at this;omega);have m4:m≠W.heap.size:=(by have:=HH.o.own.lt;omega);have v0:=r7.at0;have v1:=r7.at1;have z0:=r7.frozen 0;have z1:=r7.frozen 1;go_simp;have H8:=hlk _ ((H7.own.setCell (a:=⟨W.heap.size,0,none⟩) m4 (.int .u16 a)).setCell (a:=⟨W.heap.size,1,none⟩) m4 (.int .u8 d));refine hK.out _ _ ⟨z1m (z1m H7.c0 p4 _) p4 _,z1m (z1m H7.c1 p4 _) p4 _,H8⟩ (λh3=> ?_);clear hK K h2
   (try simp only[Act.put,List.setIfInBounds_toArray,List.set_cons_zero,List.set_cons_succ])
   refine wpAnyH_done (by kernel_rfl) ?_ _;have HP:=qH (r7.put (.int .u16 a) (.int .u8 d));have B8:=qH ((B7.setCell (p:=⟨W.heap.size,0,none⟩) qR (.int .u16 a)).setCell (p:=⟨W.heap.size,1,none⟩) qR (.int .u8 d));clear h3 H8 v0 v1 z0 z1 H6 H7 r6 r7 B6 B7 l6 l7 hlk;go_wp2_with fail;exact bodyPost_ret (v:=.agg #[.int .u16 a,.int .u8 d]) (results_cell_row rfl _ _ _ _ _ _ _ rfl HP.o.row underlying410 rfl z2G) rfl ⟨rfl,B8.o⟩
 · have d0:decide (0<(c2:Int))=true:=q9T (by omega)
   have d1:decide (0<c2)=true:=q9T (by omega);have hfn:=zbF hfit h1 (show(cv l n f 0 0 (X%2^f) n).2≠0 by rw[hc2];exact hc0);have ea:a=c1:=(by rw[<-ha,hfn,hc1]);have ed:d=c2:=(by rw[<-hd,hfn,hc2]);subst ea ed;have v0:=(R3.o.alloc (.cells #[.int .u16 a,.int .u8 d] 410)).at0;have v1:=(R3.o.alloc (.cells #[.int .u16 a,.int .u8 d] 410)).at1;have z0:=(R3.o.alloc (.cells #[.int .u16 a,.int .u8 d] 410)).frozen 0;have z1:=(R3.o.alloc (.cells #[.int .u16 a,.int .u8 d] 410)).frozen 1;have HP:=qH ((R3.o.alloc (.cells #[.int .u16 a,.int .u8 d] 410)).put (.int .u16 a) (.int .u8 d));clear hfn;go_wp2_with fail;exact bodyPost_ret (v:=.agg #[.int .u16 a,.int .u8 d]) (results_cell_row rfl _ _ _ _ _ _ _ rfl HP.o.row underlying410 rfl z2G) rfl ⟨rfl,((B3.o.alloc B3.o.size _).setCell qR _).setCell qR _⟩
