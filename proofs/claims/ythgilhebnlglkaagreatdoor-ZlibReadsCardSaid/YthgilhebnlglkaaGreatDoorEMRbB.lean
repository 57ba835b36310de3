import Derived.Test.YthgilhebnlglkaaGreatDoorEMMath
import Derived.Test.YthgilhebnlglkaaGreatDoorEP8Cpy
import Derived.WalkSpells
set_option linter.all false
set_option maxHeartbeats 8000000
set_option maxRecDepth 1000000
open Go.Proofs.Tryz
namespace Go.Proofs.YthgilhebnlglkaaGreatDoor
open Go.RowKit M
variable {w w':World} {B p a:Nat} {s:ByteArray} {S T:Nat->Prop}
theorem zdd:(prog.info? 5).map (λi=>(i.zero,i.size,i.bytes))=some (some (.int .u8 0),1,1):=by kernel_rfl
theorem zki(s:ByteArray)(k m:Nat)(hk:k<=s.size)(hm:m=Nat.min (s.extract k s.size).size 8):
 Lib.byteCells ((s.extract k s.size).data.toList.take m)++[Value.int .u8 0,.int .u8 0,.int .u8 0,.int .u8 0,.int .u8 0,.int .u8 0,.int .u8 0,.int .u8 0].drop (0+m)=(bys (tx s/256^k) 8).map (Value.int .u8):=by
 have e1:(s.extract k s.size).data.toList=s.data.toList.drop k:=by
  rw[ByteArray.data_extract,Array.toList_extract,List.extract_eq_take_drop,List.take_of_length_le];rw[List.length_drop,z09];exact qR
 have e2:(s.extract k s.size).size=(s.data.toList.drop k).length:=(by rw[<-z09,e1]);have h:=z90 (s.data.toList.drop k) 8;rw[z9D] at h;unfold tx;rw[zcg,h,e1];rw[e2] at hm;generalize s.data.toList.drop k=l at hm;have hz:[Value.int .u8 0,.int .u8 0,.int .u8 0,.int .u8 0,.int .u8 0,.int .u8 0,.int .u8 0,.int .u8 0]=List.replicate 8 (Value.int .u8 0):=rfl;rw[hz,List.drop_replicate,Nat.zero_add];have h3:l.take m=l.take 8:=by
  by_cases g:l.length<=8
  · have:m=l.length:=by rw[hm];exact Nat.min_eq_left g
    rw[this,List.take_of_length_le qR,List.take_of_length_le g]
  · have:m=8:=by rw[hm];exact Nat.min_eq_right (by omega)
    rw[this]
 have h4:8 - m=8 - l.length:=by
  have:m=min l.length 8:=hm;omega
 rw[h3,h4];simp[Lib.byteCells,Function.comp_def]
structure Nxt(w w2:World)(g:Nat)(x0 x1 x2 x3 x4 x5 x6 x7:Int):Prop where
 d0:w2.cell? ⟨g,0,none⟩=some (.int .u8 x0)
 d1:w2.cell? ⟨g,1,none⟩=some (.int .u8 x1)
 d2:w2.cell? ⟨g,2,none⟩=some (.int .u8 x2)
 d3:w2.cell? ⟨g,3,none⟩=some (.int .u8 x3)
 d4:w2.cell? ⟨g,4,none⟩=some (.int .u8 x4)
 d5:w2.cell? ⟨g,5,none⟩=some (.int .u8 x5)
 d6:w2.cell? ⟨g,6,none⟩=some (.int .u8 x6)
 d7:w2.cell? ⟨g,7,none⟩=some (.int .u8 x7)
 o:w2.heap[w.heap.size]? =some (.cells #[.int .u8 0,.int .u8 0,.int .u8 0,.int .u8 0,.int .u8 0,.int .u8 0,.int .u8 0,.int .u8 0] 182 (0,0))
 kept:Kept NoB w w2
theorem zaU(w:World)(q m:Nat)(s:ByteArray)(hq:q<=s.size)(hm:m=Nat.min (s.extract q s.size).size 8)(x0 x1 x2 x3 x4 x5 x6 x7:Int)(hx:bys (tx s/256^q) 8=[x0,x1,x2,x3,x4,x5,x6,x7]):
 ∃W2,(Builtin.copy_ #[26,9] 3 #[.slice (some ⟨w.heap.size+1,0,none⟩) 8 8,.string (s.extract q s.size)]).run prog
  ((w.alloc (.cells #[.int .u8 0,.int .u8 0,.int .u8 0,.int .u8 0,.int .u8 0,.int .u8 0,.int .u8 0,.int .u8 0] 182)).alloc (.cells #[.int .u8 0,.int .u8 0,.int .u8 0,.int .u8 0,.int .u8 0,.int .u8 0,.int .u8 0,.int .u8 0] 182)).drew=.ok (goInt m) W2/\
  Nxt w W2 (w.heap.size+1) x0 x1 x2 x3 x4 x5 x6 x7:=by
 have h8:=zki s q m hq hm;rw[hx] at h8;obtain⟨W,hW⟩:∃W,W=((w.alloc (.cells #[.int .u8 0,.int .u8 0,.int .u8 0,.int .u8 0,.int .u8 0,.int .u8 0,.int .u8 0,.int .u8 0] 182)).alloc (.cells #[.int .u8 0,.int .u8 0,.int .u8 0,.int .u8 0,.int .u8 0,.int .u8 0,.int .u8 0,.int .u8 0] 182)).drew:=⟨_,rfl⟩
 have hsz:(w.alloc (.cells #[.int .u8 0,.int .u8 0,.int .u8 0,.int .u8 0,.int .u8 0,.int .u8 0,.int .u8 0,.int .u8 0] 182)).heap.size=w.heap.size+1:=(by simp);have hh:W.heap[w.heap.size+1]? =some (.cells #[.int .u8 0,.int .u8 0,.int .u8 0,.int .u8 0,.int .u8 0,.int .u8 0,.int .u8 0,.int .u8 0] 182 (0,0)):=by
  rw[hW,<-hsz];exact heap_alloc_new _ _
 have hh0:W.heap[w.heap.size]? =some (.cells #[.int .u8 0,.int .u8 0,.int .u8 0,.int .u8 0,.int .u8 0,.int .u8 0,.int .u8 0,.int .u8 0] 182 (0,0)):=by
  rw[hW];refine(Below.heap_alloc (w.alloc (.cells #[.int .u8 0,.int .u8 0,.int .u8 0,.int .u8 0,.int .u8 0,.int .u8 0,.int .u8 0,.int .u8 0] 182)) _ w.heap.size (by omega)).trans ?_
  exact heap_alloc_new _ _
 have hk:Kept NoB w W:=(by rw[hW];exact(((Kept.refl NoB w).alloc _).alloc _).drew);rw[<-hW];clear hW
 have g:=z0B (P:= prog) W 26 9 3 5 (w.heap.size+1) 0 8 8 m (s.extract q s.size) _ 182 underlying26 (by kernel_rfl) hh hm (by
  have:m<=8:=(by rw[hm];exact Nat.min_le_right _ _);show 0+m<=8;omega)
 rw[show(#[Value.int .u8 0,.int .u8 0,.int .u8 0,.int .u8 0,.int .u8 0,.int .u8 0,.int .u8 0,.int .u8 0]:Array Value).toList=[Value.int .u8 0,.int .u8 0,.int .u8 0,.int .u8 0,.int .u8 0,.int .u8 0,.int .u8 0,.int .u8 0] from rfl,List.take_zero,List.nil_append,h8] at g;refine⟨_,g,?_⟩;have hc:=λj=>cell_setRow_same W (w.heap.size+1) j _ (([x0,x1,x2,x3,x4,x5,x6,x7].map (Value.int .u8)).toArray) _ _ hh
 exact⟨hc 0,hc 1,hc 2,hc 3,hc 4,hc 5,hc 6,hc 7,(setRow_other _ _ _ _ (by omega)).trans hh0,hk.setRow _ (.inr (by omega)) _⟩
theorem zdC(h:Rd w B p s a)(hs:s.size<=100000000):
 Calls prog 285 #[.pointer (some ⟨p,0,none⟩)] w λe w'=>e=.returned (.agg ((bys (tx s/256^(a/8)) 8).map (Value.int .u8)).toArray)/\Kept NoB w w':=by
 have h1:=h.c1;have h2:=h.c2;have hle:=h.le;have hp:=h.lt;have hk:a/8<=s.size:=(by omega);have hw:IntKind.i64.wrap ((a:Int) /8)=((a/8:Nat):Int):=(by rw[IntWalk.i64_in _ ⟨by omega,by omega⟩];omega);generalize hq:a/8=q at hw hk ⊢;obtain⟨x0,x1,x2,x3,x4,x5,x6,x7,hx⟩:∃x0 x1 x2 x3 x4 x5 x6 x7,bys (tx s/256^q) 8=[x0,x1,x2,x3,x4,x5,x6,x7]:=⟨_,_,_,_,_,_,_,_,rfl⟩
 obtain⟨W2,hr,hN⟩:=zaU w q _ s hk rfl x0 x1 x2 x3 x4 x5 x6 x7 hx;obtain⟨HC,HX,HN⟩:=qh3 hr hx hN;clear h hx hr hN hq hle;go_enter func285,ntmps285;go_wp2_with fail
 go_region_law (refine z2W rfl _ _ _ _ rfl _ _ rfl rfl HC.o ?_)
 all_goals
  have d0:=HN.o.d0;have d1:=HN.o.d1;have d2:=HN.o.d2;have d3:=HN.o.d3;have d4:=HN.o.d4;have d5:=HN.o.d5;have d6:=HN.o.d6;have d7:=HN.o.d7;have e0:W2.cell? ⟨w.heap.size,0,none⟩=some (.int .u8 0):=(by have:=HN.o.o;simp[World.cell?,this]);have f0:W2.frozen? ⟨w.heap.size,0,none⟩=false:=(by have:=HN.o.o;simp[World.frozen?,this]);have e1:W2.cell? ⟨w.heap.size,1,none⟩=some (.int .u8 0):=(by have:=HN.o.o;simp[World.cell?,this]);have f1:W2.frozen? ⟨w.heap.size,1,none⟩=false:=(by have:=HN.o.o;simp[World.frozen?,this]);have e2:W2.cell? ⟨w.heap.size,2,none⟩=some (.int .u8 0):=(by have:=HN.o.o;simp[World.cell?,this]);have f2:W2.frozen? ⟨w.heap.size,2,none⟩=false:=(by have:=HN.o.o;simp[World.frozen?,this]);have e3:W2.cell? ⟨w.heap.size,3,none⟩=some (.int .u8 0):=(by have:=HN.o.o;simp[World.cell?,this]);have f3:W2.frozen? ⟨w.heap.size,3,none⟩=false:=(by have:=HN.o.o;simp[World.frozen?,this]);have e4:W2.cell? ⟨w.heap.size,4,none⟩=some (.int .u8 0):=(by have:=HN.o.o;simp[World.cell?,this]);have f4:W2.frozen? ⟨w.heap.size,4,none⟩=false:=(by have:=HN.o.o;simp[World.frozen?,this]);have e5:W2.cell? ⟨w.heap.size,5,none⟩=some (.int .u8 0):=(by have:=HN.o.o;simp[World.cell?,this]);have f5:W2.frozen? ⟨w.heap.size,5,none⟩=false:=(by have:=HN.o.o;simp[World.frozen?,this]);have e6:W2.cell? ⟨w.heap.size,6,none⟩=some (.int .u8 0):=(by have:=HN.o.o;simp[World.cell?,this]);have f6:W2.frozen? ⟨w.heap.size,6,none⟩=false:=(by have:=HN.o.o;simp[World.frozen?,this]);have e7:W2.cell? ⟨w.heap.size,7,none⟩=some (.int .u8 0):=(by have:=HN.o.o;simp[World.cell?,this]);have f7:W2.frozen? ⟨w.heap.size,7,none⟩=false:=(by have:=HN.o.o;simp[World.frozen?,this]);clear h1 h2;go_wp2_with fail;have g0:(W2.setCell ⟨w.heap.size,0,none⟩ (.int .u8 x0)).cell? ⟨w.heap.size,0,none⟩=some (.int .u8 x0):=z11 e0;have g1:((W2.setCell ⟨w.heap.size,0,none⟩ (.int .u8 x0)).setCell ⟨w.heap.size,1,none⟩ (.int .u8 x1)).cell? ⟨w.heap.size,1,none⟩=some (.int .u8 x1):=z11 ((z05 (by decide)).trans e1);have g2:(((W2.setCell ⟨w.heap.size,0,none⟩ (.int .u8 x0)).setCell ⟨w.heap.size,1,none⟩ (.int .u8 x1)).setCell ⟨w.heap.size,2,none⟩ (.int .u8 x2)).cell? ⟨w.heap.size,2,none⟩=some (.int .u8 x2):=z11 ((z05 (by decide)).trans ((z05 (by decide)).trans e2));have g3:((((W2.setCell ⟨w.heap.size,0,none⟩ (.int .u8 x0)).setCell ⟨w.heap.size,1,none⟩ (.int .u8 x1)).setCell ⟨w.heap.size,2,none⟩ (.int .u8 x2)).setCell ⟨w.heap.size,3,none⟩ (.int .u8 x3)).cell? ⟨w.heap.size,3,none⟩=some (.int .u8 x3):=z11 ((z05 (by decide)).trans ((z05 (by decide)).trans ((z05 (by decide)).trans e3)));have g4:(((((W2.setCell ⟨w.heap.size,0,none⟩ (.int .u8 x0)).setCell ⟨w.heap.size,1,none⟩ (.int .u8 x1)).setCell ⟨w.heap.size,2,none⟩ (.int .u8 x2)).setCell ⟨w.heap.size,3,none⟩ (.int .u8 x3)).setCell ⟨w.heap.size,4,none⟩ (.int .u8 x4)).cell? ⟨w.heap.size,4,none⟩=some (.int .u8 x4):=z11 ((z05 (by decide)).trans ((z05 (by decide)).trans ((z05 (by decide)).trans ((z05 (by decide)).trans e4))));have g5:((((((W2.setCell ⟨w.heap.size,0,none⟩ (.int .u8 x0)).setCell ⟨w.heap.size,1,none⟩ (.int .u8 x1)).setCell ⟨w.heap.size,2,none⟩ (.int .u8 x2)).setCell ⟨w.heap.size,3,none⟩ (.int .u8 x3)).setCell ⟨w.heap.size,4,none⟩ (.int .u8 x4)).setCell ⟨w.heap.size,5,none⟩ (.int .u8 x5)).cell? ⟨w.heap.size,5,none⟩=some (.int .u8 x5):=z11 ((z05 (by decide)).trans ((z05 (by decide)).trans ((z05 (by decide)).trans ((z05 (by decide)).trans ((z05 (by decide)).trans e5)))));have g6:(((((((W2.setCell ⟨w.heap.size,0,none⟩ (.int .u8 x0)).setCell ⟨w.heap.size,1,none⟩ (.int .u8 x1)).setCell ⟨w.heap.size,2,none⟩ (.int .u8 x2)).setCell ⟨w.heap.size,3,none⟩ (.int .u8 x3)).setCell ⟨w.heap.size,4,none⟩ (.int .u8 x4)).setCell ⟨w.heap.size,5,none⟩ (.int .u8 x5)).setCell ⟨w.heap.size,6,none⟩ (.int .u8 x6)).cell? ⟨w.heap.size,6,none⟩=some (.int .u8 x6):=z11 ((z05 (by decide)).trans ((z05 (by decide)).trans ((z05 (by decide)).trans ((z05 (by decide)).trans ((z05 (by decide)).trans ((z05 (by decide)).trans e6))))));have g7:((((((((W2.setCell ⟨w.heap.size,0,none⟩ (.int .u8 x0)).setCell ⟨w.heap.size,1,none⟩ (.int .u8 x1)).setCell ⟨w.heap.size,2,none⟩ (.int .u8 x2)).setCell ⟨w.heap.size,3,none⟩ (.int .u8 x3)).setCell ⟨w.heap.size,4,none⟩ (.int .u8 x4)).setCell ⟨w.heap.size,5,none⟩ (.int .u8 x5)).setCell ⟨w.heap.size,6,none⟩ (.int .u8 x6)).setCell ⟨w.heap.size,7,none⟩ (.int .u8 x7)).cell? ⟨w.heap.size,7,none⟩=some (.int .u8 x7):=z11 ((z05 (by decide)).trans ((z05 (by decide)).trans ((z05 (by decide)).trans ((z05 (by decide)).trans ((z05 (by decide)).trans ((z05 (by decide)).trans ((z05 (by decide)).trans e7)))))));refine bodyPost_ret (v:=.agg #[.int .u8 x0,.int .u8 x1,.int .u8 x2,.int .u8 x3,.int .u8 x4,.int .u8 x5,.int .u8 x6,.int .u8 x7]) (by simp[results,results285,go_sem,g0,g1,g2,g3,g4,g5,g6,g7]) rfl ⟨by rw[HX.o];rfl,?_⟩;exact((((((((HN.o.kept.setCell ⟨w.heap.size,0,none⟩ (.inr qR) (.int .u8 x0)).setCell ⟨w.heap.size,1,none⟩ (.inr qR) (.int .u8 x1)).setCell ⟨w.heap.size,2,none⟩ (.inr qR) (.int .u8 x2)).setCell ⟨w.heap.size,3,none⟩ (.inr qR) (.int .u8 x3)).setCell ⟨w.heap.size,4,none⟩ (.inr qR) (.int .u8 x4)).setCell ⟨w.heap.size,5,none⟩ (.inr qR) (.int .u8 x5)).setCell ⟨w.heap.size,6,none⟩ (.inr qR) (.int .u8 x6)).setCell ⟨w.heap.size,7,none⟩ (.inr qR) (.int .u8 x7))
end Go.Proofs.YthgilhebnlglkaaGreatDoor
namespace Go.Proofs.YthgilhebnlglkaaGreatDoor
open Go.RowKit M
variable {w w':World} {B p a:Nat} {s:ByteArray} {S T:Nat->Prop}
theorem zkB(w:World)(N k:Nat)(hk:k<8):
 (Instr.index 182 (.agg ((bys N 8).map (Value.int .u8)).toArray) (.int .i64 k)).run prog w=.ok (.int .u8 ((N/256^k%256:Nat):Int)) w:=by
 have h':k=0\/k=1\/k=2\/k=3\/k=4\/k=5\/k=6\/k=7:=(by omega);rcases h' with rfl|rfl|rfl|rfl|rfl|rfl|rfl|rfl<;>rfl
theorem z7M(h:Rd w B p s a)(hs:s.size<=100000000)(n:Nat)(hn:n<=56):
 Calls prog 251 #[.pointer (some ⟨p,0,none⟩),.int .i64 n] w λe w'=>e=.returned (.int .u64 (nb s a n))/\Kept NoB w w':=by
 obtain⟨N,hN⟩:∃N,tx s/256^(a/8)=N:=⟨_,rfl⟩
 have hnx:=zdC h hs;rw[hN] at hnx;generalize hV:Value.agg ((bys N 8).map (Value.int .u8)).toArray=V at hnx;obtain⟨HC,HR⟩:=qh2 hnx h;have hidx:=zkB;obtain⟨HN,HV⟩:=qh2 hN hV;have ha:a<=800000000:=(by have:=h.le;omega);clear hnx h hN hV;go_enter func251,ntmps251;go_wp2_with fail;refine HC.o.mono ?_;rintro e w1 ⟨rfl,k1⟩;have R1:=qH (HR.o.same k1);have K1:=qH k1;clear k1;go_wp2_with fail
 go_loop [5,10] (λu i=> ∃k:Nat,k<=8/\i=.int .i64 k/\u=.int .u64 (N%256^k:Nat)) (λ_ i=>8 - (intOf i).toNat)
 case atStart=>exact⟨0,qZ,rfl,by simp[Nat.mod_one]⟩
 case round=>
  obtain⟨k,hk,rfl,rfl⟩:=hrel;by_cases hlt:k<8
  · have hx:=hidx w1 N k hlt
    rw[HV.o] at hx;have hor:=zgW N k hlt;obtain⟨b,hb⟩:∃b,N/256^k%256=b:=⟨_,rfl⟩
    obtain⟨u,hu⟩:∃u,N%256^k=u:=⟨_,rfl⟩
    obtain⟨u',hu'⟩:∃u',N%256^(k+1)=u':=⟨_,rfl⟩
    rw[hb] at hx;rw[hb,hu,hu'] at hor;rw[hu];have hb2:b<256:=(by rw[<-hb];exact Nat.mod_lt _ (by decide));have HU:=qH hu';clear hu hu' hb hidx;go_wp2_with fail
    go_round
    case rel=>exact⟨k+1,by omega,by go_num,by rw[HU.o]⟩
    case measure=>simp[intOf];omega
  · obtain rfl:k=8:=by omega
    generalize hu:N%256^8=u;have c2:=R1.o.c2;have hw:(a:Int).tmod 8=((a%8:Nat):Int):=(by rw[Int.tmod_eq_emod_of_nonneg (by omega)];rfl);generalize hr:a%8=r at hw;obtain⟨HU,Hr⟩:=qh2 hu hr;clear hu hr hidx;go_wp2_with fail
    go_quiet ((go_at_call 270;exact Calls.quiet_of_same ((z2z n _ (by omega)).mono (by rintro e w' ⟨rfl,rfl⟩;exact⟨rfl,rfl⟩))))
    go_wp2_with fail;go_ret;exact⟨congrArg (λz=>Ending.returned (.int .u64 z)) (zdQ s a n N u r hn HN.o HU.o Hr.o),K1.o.drewN _⟩
def Got(w:World)(B p:Nat)(s:ByteArray)(v:Value)(r:Nat)(e:Ending)(w':World):Prop:=
 e=.returned v/\Rd w' B p s r/\Kept (λj=>j=p) w w'
theorem Got.same(h:Rd w B p s a)(hk:Kept NoB w w')(v:Value):Got w B p s v a (.returned v) w':=⟨rfl,h.same hk,hk.none _⟩
theorem Got.put(h:Rd w B p s a)(hk:Kept NoB w w')(b:Nat)(hb:b<=8*s.size)(z:Int)(hz:z=(b:Int))(v:Value):Got w B p s v b (.returned v) (w'.setCell ⟨p,2,none⟩ (.int .i64 z)):=by
 have h2:=(h.same hk).put b hb z hz;exact⟨rfl,h2.1,(hk.none _).trans h2.2 (λj hj=> .inl hj)⟩
theorem zaB(h:Rd w B p s a)(hs:s.size<=100000000)(n:Nat)(hn:n<=56)(hle:a+n<=8*s.size):
 Calls prog 207 #[.pointer (some ⟨p,0,none⟩),.int .i64 n] w (Got w B p s (.tuple #[.int .u64 (nb s a n),.int .i64 0]) (a+n)):=by
 have h0:=h.c0;have HH:=qH h;have ha:a<=800000000:=(by have:=h.le;omega);obtain⟨l,hl⟩:∃l,8*s.size - a=l:=⟨_,rfl⟩
 have hnl:n<=l:=(by omega);obtain⟨HL,HE⟩:=qh2 hl hle;clear h hl hle;go_enter func207,ntmps207;go_wp2_with (go_at_call 172;refine(z0u p _ h0).mono ?_;rintro e w' ⟨rfl,rfl⟩);refine(z4q n _ (by omega) (by omega)).mono ?_;rintro e w' ⟨rfl,rfl⟩;go_wp2_with fail;refine(z2B HH.o hs).mono ?_;rintro e w' ⟨rfl,n1,rfl⟩;rw[HL.o];go_wp2_with fail;refine(z7M (HH.o.drewN n1) hs n hn).mono ?_;rintro e w2 ⟨rfl,k2⟩;have K2:=qH (((Kept.refl NoB w).drewN n1).trans k2 (λ_ g=>g.elim));have R2:=qH (HH.o.same K2.o);have c2:=R2.o.c2;have f2:=R2.o.fz 2;clear k2 h0;go_wp2_with fail;go_ret2;exact Got.put HH.o K2.o (a+n) HE.o _ (by omega) _
theorem zaC(h:Rd w B p s a)(hs:s.size<=100000000)(x:Int)(h1:0<=x)(h2:x<=56)(hle:((8*s.size:Nat):Int) - a<x):
 Calls prog 207 #[.pointer (some ⟨p,0,none⟩),.int .i64 x] w (Got w B p s (.tuple #[.int .u64 0,.int .i64 6]) a):=by
 have h0:=h.c0;have HH:=qH h;obtain⟨l,hl⟩:∃l,8*s.size - a=l:=⟨_,rfl⟩
 have hnl:(l:Int)<x:=(by have:=h.le;omega);have HL:=qH hl;clear h hl hle;go_enter func207,ntmps207;go_wp2_with (go_at_call 172;refine(z0u p _ h0).mono ?_;rintro e w' ⟨rfl,rfl⟩);refine(z4q x _ (by omega) (by omega)).mono ?_;rintro e w' ⟨rfl,rfl⟩;go_wp2_with fail;refine(z2B HH.o hs).mono ?_;rintro e w' ⟨rfl,n1,rfl⟩;rw[HL.o];go_wp2_with fail;go_ret2;exact Got.same HH.o ((Kept.refl NoB w).drewN n1) _
