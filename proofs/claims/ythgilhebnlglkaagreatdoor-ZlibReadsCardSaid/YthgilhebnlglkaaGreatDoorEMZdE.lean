import Derived.Test.YthgilhebnlglkaaGreatDoorEMIfC
import Derived.Test.YthgilhebnlglkaaGreatDoorEMDfD
set_option linter.all false
set_option maxHeartbeats 8000000
set_option maxRecDepth 1000000
open Go.Proofs.Tryz
namespace Go.Proofs.YthgilhebnlglkaaGreatDoor.Z
open Go Go.RowKit
structure Zs(T:World->Prop):Prop where
 keep:∀ {w w':World},T w->Below w.heap.size w w'->T w'
 wk:∀w,T w->Calls prog 13 #[.string ⟨#[]⟩,.string ⟨#[]⟩,.int .i64 6,.int .i64 99] w λe w'=>e=.returned (.tuple #[.string ⟨#[120,156,3,0,0,0,0,1]⟩,.int .i64 0])/\Below w.heap.size w w'
 iz:I.Ifs T
theorem z6Y:wr ⟨#[]⟩ ⟨#[]⟩ 6=⟨#[120,156,3,0,0,0,0,1]⟩:=by
 unfold wr;rw[V.dby_empty];rfl
theorem zbv:I.inf 1000000 ⟨#[3,0,0,0,0,1,120]⟩ 0 9 (0,[])=.ok ((),(10,[])):=
 I.inf_more (s:=⟨#[3,0,120]⟩) (n:=2) (b:=⟨#[0,0,0,1,120]⟩) rfl (I.inf_nought 999999) qR rfl (by decide)
theorem zaw:rdv ⟨#[]⟩ ⟨#[120,156,3,0,0,0,0,1,120]⟩ 9=(⟨#[]⟩,8,0):=by
 have hd:dct ⟨#[120,156,3,0,0,0,0,1,120]⟩=(0,false,0):=(by decide);have h1:ahd ⟨#[120,156,3,0,0,0,0,1,120]⟩=2:=(by unfold ahd;rw[hd];rfl);have h2:dic ⟨#[]⟩ ⟨#[120,156,3,0,0,0,0,1,120]⟩=⟨#[]⟩:=(by unfold dic;rw[hd];rfl);have h3:(⟨#[120,156,3,0,0,0,0,1,120]⟩:ByteArray).extract 2 (⟨#[120,156,3,0,0,0,0,1,120]⟩:ByteArray).size=⟨#[3,0,0,0,0,1,120]⟩:=(by decide);have h4:rin ⟨#[]⟩ ⟨#[3,0,0,0,0,1,120]⟩ 9=([],2,0):=by
  unfold rin;rw[if_neg (by decide),show(9:Int).toNat=9 from rfl,show(⟨#[]⟩:ByteArray).size=0 from rfl,show(⟨#[]⟩:ByteArray).data.toList=[] from rfl,zbv];rfl
 unfold rdv;rw[h1,h2,h3,h4];unfold rdz;rw[hd];simp only;rw[if_neg (by decide),if_neg (by decide)];unfold rdt;rw[h1];simp only;rw[if_neg (by decide),if_neg (by decide),if_neg (by decide)]
theorem zg7{T:World->Prop}(C:Zs T)(w:World)(H:T w):Calls prog 10 #[] w λe w'=>e=.returned (.bool true)/\Below w.heap.size w w':=by
 have hk:∀ {a b:World},T a->Below a.heap.size a b->T b:=λh b=>C.keep h b
 have H1:=qH (show Calls prog 13 #[.string ⟨#[]⟩,.string ⟨#[]⟩,.int .i64 6,.int .i64 99] w λe w'=>e=.returned (.tuple #[.string ⟨#[120,156,3,0,0,0,0,1]⟩,.int .i64 0])/\Below w.heap.size w w' from C.wk w H)
 have H2:=qH (λ(w':World) (b:Below w.heap.size w w')=>(show Calls prog 14 #[.string ⟨#[]⟩,.string ((⟨#[120,156,3,0,0,0,0,1]⟩:ByteArray)++⟨#[120]⟩),.int .i64 9] w' λe w2=>e=.returned (.tuple #[.string ⟨#[]⟩,.int .i64 8,.int .i64 0])/\Below w'.heap.size w' w2 from by
  have h:=read_any C.iz ⟨#[]⟩ ⟨#[120,156,3,0,0,0,0,1,120]⟩ 9 w' (hk H b) (by decide) (by decide) (by decide);rw[zaw] at h;exact h))
 have H3:=qH (λ(w':World)=>(show Calls prog 30 #[.string ⟨#[120,156,3,0,0,0,0,1]⟩] w' λe w2=>e=.returned (.tuple #[.int .u32 0,.bool false,.int .i64 0])/\Below w'.heap.size w' w2 from by
  have h:=z4J ⟨#[120,156,3,0,0,0,0,1]⟩ w' (by decide);rw[show dct ⟨#[120,156,3,0,0,0,0,1]⟩=(0,false,0) from by decide] at h;exact h))
 have H4:=qH (λ(w':World) (b:Below w.heap.size w w')=>(show Calls prog 14 #[.string ⟨#[]⟩,.string ⟨#[120]⟩,.int .i64 9] w' λe w2=>e=.returned (.tuple #[.string ⟨#[]⟩,.int .i64 0,.int .i64 6])/\Below w'.heap.size w' w2 from by
  have h:=read_any C.iz ⟨#[]⟩ ⟨#[120]⟩ 9 w' (hk H b) (by decide) (by decide) (by decide);rw[show rdv ⟨#[]⟩ ⟨#[120]⟩ 9=(⟨#[]⟩,0,6) from by unfold rdv rdz;rw[show dct ⟨#[120]⟩=(0,false,6) from by decide];rfl] at h;exact h))
 clear H C hk;go_enter func10,ntmps10
 go_wp2_with (first
  |(go_at_call 13;(with_reducible refine H1.o.mono ?_);rintro e w1 ⟨rfl,b1⟩;have B1:=qH b1;clear b1)
  |(go_at_call 14;(with_reducible refine qcb B1 (H2.o _ B1.o) ?_);intro w2 B2)
  |(go_at_call 30;(with_reducible refine qcb B2 (H3.o _) ?_);intro w3 B3)
  |(go_at_call 14;(with_reducible refine qcb B3 (H4.o _ B3.o) ?_);intro w4 B4))
 go_ret;exact⟨rfl,B4.o⟩
theorem z6G(d s:ByteArray)(w:World):Calls prog 9 #[.string d,.string s] w λe w'=>e=.returned (.bool (decide (4096<d.size\/1024<s.size)))/\w=w':=by
 obtain⟨b1,hb1⟩:∃b,decide (4096<d.size)=b:=⟨_,rfl⟩
 obtain⟨b2,hb2⟩:∃b,decide (1024<s.size)=b:=⟨_,rfl⟩
 have hb1':decide ((4096:Int)<(d.size:Int))=b1:=(by rw[<-hb1];exact decide_eq_decide.2 (by omega));have hb2':decide ((1024:Int)<(s.size:Int))=b2:=(by rw[<-hb2];exact decide_eq_decide.2 (by omega));rw[Bool.decide_or,hb1,hb2];cases b1<;>cases b2<;>
 · go_enter func9,ntmps9
   go_wp2;go_ret;exact⟨rfl,rfl⟩
theorem zjg(s:ByteArray):(dct s).2.1=false->(dct s).1=0:=by
 unfold dct
 split
 · intro _;rfl
 · split
   · intro _;rfl
   · split
     · intro _;rfl
     · split
       · intro _;rfl
       · intro h;cases h
theorem zav{T:World->Prop}(C:I.Ifs T)(d s:ByteArray)(lim:Int)(w:World)(H:T w)(hd:d.size<=32768)(hs:s.size<=100000)(hl:lim<=800000000):Calls prog 11 #[.string d,.string s,.int .i64 lim] w λe w'=>e=.returned (.bool true)/\Below w.heap.size w w':=by
 have h1:=read_any C d s lim w H hd hs hl;have h2:=λw=>zaj d s lim w hd hs hl
 have h3:=λw=>z4J s w (by unfold maxLen;omega)
 have h4:=λw=>z5q s w (by unfold maxLen;omega)
 have hi:=zjg s;have hlt:=zbS s;unfold dcs at h4;generalize hV:rdv d s lim=V at h1;simp only[hV] at h2;obtain⟨X,u,c⟩:=V;generalize hq:dct s=q at hi hlt;simp only[hq] at h3 h4;obtain⟨id,is,ec⟩:=q;simp only at h1 h2 h3 h4 hi hlt;clear hV hq H C;obtain⟨H1,H2,H3⟩:=qh3 h1 h2 h3;cases is with
 |false=>
  have hid:=hi rfl;subst hid;have H4:=qH (λw=>(show Calls prog 32 #[.string s] w λe w'=>e=.returned (.tuple #[.string ⟨#[]⟩,.bool false,.int .i64 ec])/\Below w.heap.size w w' from h4 w));clear h1 h2 h3 h4 hi hlt;go_enter func11,ntmps11
  go_wp2_with (first
   |(go_at_call 14;(with_reducible refine H1.o.mono ?_);rintro e w1 ⟨rfl,b1⟩;have B1:=qH b1;clear b1)
   |(go_at_call 31;(with_reducible refine qcb B1 (H2.o _) ?_);intro w2 B2)
   |(go_at_call 30;(with_reducible refine qcb B2 (H3.o _) ?_);intro w3 B3)
   |(go_at_call 32;(with_reducible refine qcb B3 (H4.o _) ?_);intro w4 B4))
  go_ret;exact⟨rfl,B4.o⟩
 |true=>
  have H4:=qH (λw=>(show Calls prog 32 #[.string s] w λe w'=>e=.returned (.tuple #[.string (sb id),.bool true,.int .i64 ec])/\Below w.heap.size w w' from h4 w));obtain⟨p0h,p1h,p2h,p3h⟩:=z2e id hlt;have hc:=λw=>zhy w _ _ _ _ p0h p1h p2h p3h
  have hs':(⟨#[UInt8.ofNat (id/16777216),UInt8.ofNat (id/65536%256),UInt8.ofNat (id/256%256),UInt8.ofNat (id%256)]⟩:ByteArray)=sb id:=rfl;simp only[hs'] at hc;have a1:=z4d (id/65536) (by omega);have a2:=z4d (id/256) (by omega);have a3:=z4d id hlt;obtain⟨n,hn⟩:∃n,id=n:=⟨_,rfl⟩
  obtain⟨p0,e0⟩:∃p0,id/16777216=p0:=⟨_,rfl⟩
  obtain⟨q1,f1⟩:∃q1,id/65536=q1:=⟨_,rfl⟩
  obtain⟨q2,f2⟩:∃q2,id/256=q2:=⟨_,rfl⟩
  simp only[e0,f1,f2] at hc;rw[f1] at a1;rw[f2] at a2;obtain⟨p1,e1⟩:∃p1,q1%256=p1:=⟨_,rfl⟩
  obtain⟨p2,e2⟩:∃p2,q2%256=p2:=⟨_,rfl⟩
  obtain⟨p3,e3⟩:∃p3,id%256=p3:=⟨_,rfl⟩
  simp only[e1,e2,e3] at hc;rw[e1] at a1;rw[e2] at a2;rw[e3] at a3;have d0':(id:Int) /16777216=(p0:Int):=(by omega);have d1':(id:Int) /65536=(q1:Int):=(by omega);have d2':(id:Int) /256=(q2:Int):=(by omega);have u0:IntKind.u8.wrap (p0:Int)=(p0:Int):=(by rw[IntKind.wrap_u8'];omega);have u1:IntKind.u8.wrap (p1:Int)=(p1:Int):=(by rw[IntKind.wrap_u8'];omega);have u2:IntKind.u8.wrap (p2:Int)=(p2:Int):=(by rw[IntKind.wrap_u8'];omega);have u3:IntKind.u8.wrap (p3:Int)=(p3:Int):=(by rw[IntKind.wrap_u8'];omega);obtain⟨SI,hSI⟩:∃SI,sb id=SI:=⟨_,rfl⟩
  simp only[hSI] at hc H4;have HC:=qH hc;clear h1 h2 h3 h4 hi e0 f1 f2 e1 e2 e3 hs' hn hSI p0h p1h p2h p3h hc;go_enter func11,ntmps11
  go_wp2_with (first
   |(go_at_call 14;(with_reducible refine H1.o.mono ?_);rintro e w1 ⟨rfl,b1⟩;have B1:=qH b1;clear b1)
   |(go_at_call 31;(with_reducible refine qcb B1 (H2.o _) ?_);intro w2 B2)
   |(go_at_call 30;(with_reducible refine qcb B2 (H3.o _) ?_);intro w3 B3)
   |(go_at_call 32;(with_reducible refine(H4.o _).mono ?_);rintro e w4 ⟨rfl,b4⟩;have B4:=qbt B3 b4;have hc4:=HC.o w4;clear b4))
  go_ret;exact⟨rfl,B4.o.alloc B4.o.size _⟩
theorem zreads_law{T:World->Prop}(C:Zs T)(d s:ByteArray)(lim:Int)(W:World)(H:T W)(hl:(Lit.int .i64 lim).wf=true):Calls prog 3 #[.string d,.string s,.int .i64 lim] W λe w'=>e=.returned (.bool true)/\Below W.heap.size W w':=by
 have HW:=qH (λ(w:World) (b:Below W.heap.size W w)=>zg7 C w (C.keep H b));have HH:=qH (λ(w:World)=>z6G d s w);generalize hbq:(decide (4096<d.size\/1024<s.size))=bq at HH;cases bq with
 |true=>
  clear H hbq;go_enter func3,ntmps3
  go_wp2_with (first
   |(go_at_call 9;(with_reducible refine(HH.o _).mono ?_);rintro e w1 ⟨rfl,rfl⟩)
   |(go_at_call 10;(with_reducible refine(HW.o _ (Below.refl _ _)).mono ?_);rintro e w5 ⟨rfl,b5⟩;have B5:=qH b5;clear b5))
  go_ret;exact⟨rfl,B5.o⟩
 |false=>
  have hd:d.size<=4096:=(by have:=of_decide_eq_false hbq;omega);have hs:s.size<=1024:=(by have:=of_decide_eq_false hbq;omega);obtain⟨m,hm⟩:∃m:Int,min lim 8192=m:=⟨_,rfl⟩
  have hm2:m<=8192:=(by omega);have HR:=qH (zav C.iz d s m W H (by omega) (by omega) (by omega));clear H hbq C;go_enter func3,ntmps3
  go_wp2_with (first
   |(go_at_call 9;(with_reducible refine(HH.o _).mono ?_);rintro e w1 ⟨rfl,rfl⟩)
   |(go_at_call 11;(with_reducible refine HR.o.mono ?_);rintro e w2 ⟨rfl,b2⟩;have B2:=qH b2;clear b2)
   |(go_at_call 10;(with_reducible refine qcb B2 (HW.o _ B2.o) ?_);intro w5 B5))
  go_ret;exact⟨rfl,B5.o⟩
theorem zs:Zs Tabz where
 keep:=λh b=>h.keep b
 wk:=λw H=>by
  have h:=zcF ⟨#[]⟩ ⟨#[]⟩ 6 99 w (by rw[V.dby_empty];exact V.deflate_mt w H.2) (λw' b=>(Tabz.keep H b).1) (by decide) (by decide) (by decide) (by decide) (by rw[z6Y];decide);rw[z6Y] at h;exact h
 iz:=⟨λh b=>h.keep b,λd s L w H hd hs hL=>I.ifs.yes d s L w H.2.2 hd hs hL,λd s l w H hl=>I.ifs.neg d s l w H.2.2 hl⟩
theorem tabz_of_laid{W:World}{laid:List (String×DataW Unit)}(hl:laid=[("platen/parse.levels",Rows.laid_platen_parse_levels),("platen/runs.says",Rows.laid_platen_runs_says),("platen/symbol.lengths",Rows.laid_platen_symbol_lengths),("platen/symbol.distances",Rows.laid_platen_symbol_distances),("platen/zlib.levels",Rows.laid_platen_zlib_levels)])(h:laidMet prog laid W):Tabz W:=by
 subst hl;exact⟨z62 rfl (h.filter λx=>x.1== "platen/zlib.levels"),V.tabx_of_laid rfl (h.filter λx=>x.1 != "platen/zlib.levels")⟩
