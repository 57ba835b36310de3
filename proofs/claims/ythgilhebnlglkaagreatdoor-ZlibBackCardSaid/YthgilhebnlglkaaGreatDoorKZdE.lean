import Derived.Test.YthgilhebnlglkaaGreatDoorKMIfC
import Derived.Test.YthgilhebnlglkaaGreatDoorKMDfM
set_option linter.all false
set_option maxHeartbeats 0
set_option maxRecDepth 1000000
open Go.Proofs.Tryz
namespace Go.Proofs.YthgilhebnlglkaaGreatDoor
namespace Z
open Go Go.RowKit
structure Zs(T:World->Prop):Prop where
 keep:∀ {w w':World},T w->Below w.heap.size w w'->T w'
 wk:∀w,T w->Calls prog 13 #[.string ⟨#[]⟩,.string ⟨#[]⟩,.int .i64 6,.int .i64 99] w λe w'=>e=.returned (.tuple #[.string ⟨#[120,156,3,0,0,0,0,1]⟩,.int .i64 0])/\Below w.heap.size w w'
 iz:I.Ifs T
theorem nk:wr ⟨#[]⟩ ⟨#[]⟩ 6=⟨#[120,156,3,0,0,0,0,1]⟩:=by
 unfold wr;rw[V.dby_empty];rfl
theorem uM:I.inf 1000000 ⟨#[3,0,0,0,0,1,120]⟩ 0 9 (0,[])=.ok ((),(10,[])):=
 I.inf_more (s:=⟨#[3,0,120]⟩) (n:=2) (b:=⟨#[0,0,0,1,120]⟩) rfl (I.inf_nought 999999) qR rfl (by decide)
theorem tm:rdv ⟨#[]⟩ ⟨#[120,156,3,0,0,0,0,1,120]⟩ 9=(⟨#[]⟩,8,0):=by
 have a:dct ⟨#[120,156,3,0,0,0,0,1,120]⟩=(0,false,0):=(by decide);have b:ahd ⟨#[120,156,3,0,0,0,0,1,120]⟩=2:=(by unfold ahd;rw[a];rfl);have d:dic ⟨#[]⟩ ⟨#[120,156,3,0,0,0,0,1,120]⟩=⟨#[]⟩:=(by unfold dic;rw[a];rfl);have c:(⟨#[120,156,3,0,0,0,0,1,120]⟩:ByteArray).extract 2 (⟨#[120,156,3,0,0,0,0,1,120]⟩:ByteArray).size=⟨#[3,0,0,0,0,1,120]⟩:=(by decide);have e:rin ⟨#[]⟩ ⟨#[3,0,0,0,0,1,120]⟩ 9=([],2,0):=by
  unfold rin;rw[A0 (by decide),show(9:Int).toNat=9 from rfl,show(⟨#[]⟩:ByteArray).size=0 from rfl,show(⟨#[]⟩:ByteArray).data.toList=[] from rfl,uM];rfl
 unfold rdv;rw[b,d,c,e];unfold rdz;rw[a];simp only;rw[A0 (by decide),A0 (by decide)];unfold rdt;rw[b];simp only;rw[A0 (by decide),A0 (by decide),A0 (by decide)]
theorem Fe{T:World->Prop}(C:Zs T)(w:World)(H:T w):Calls prog 10 #[] w λe w'=>e=.returned (.bool true)/\Below w.heap.size w w':=by
 have d:∀ {a b:World},T a->Below a.heap.size a b->T b:=λh b=>C.keep h b
 have n:=qH (show Calls prog 13 #[.string ⟨#[]⟩,.string ⟨#[]⟩,.int .i64 6,.int .i64 99] w λe w'=>e=.returned (.tuple #[.string ⟨#[120,156,3,0,0,0,0,1]⟩,.int .i64 0])/\Below w.heap.size w w' from C.wk w H)
 have q:=qH (λ(w':World) (b:Below w.heap.size w w')=>(show Calls prog 14 #[.string ⟨#[]⟩,.string ((⟨#[120,156,3,0,0,0,0,1]⟩:ByteArray)++⟨#[120]⟩),.int .i64 9] w' λe c=>e=.returned (.tuple #[.string ⟨#[]⟩,.int .i64 8,.int .i64 0])/\Below w'.heap.size w' c from by
  have h:=read_any C.iz ⟨#[]⟩ ⟨#[120,156,3,0,0,0,0,1,120]⟩ 9 w' (d H b) (by decide) (by decide) (by decide);rw[tm] at h;exact h))
 have p:=qH (λ(w':World)=>(show Calls prog 30 #[.string ⟨#[120,156,3,0,0,0,0,1]⟩] w' λe c=>e=.returned (.tuple #[.int .u32 0,.bool false,.int .i64 0])/\Below w'.heap.size w' c from by
  have h:=p9 ⟨#[120,156,3,0,0,0,0,1]⟩ w' (by decide);rw[show dct ⟨#[120,156,3,0,0,0,0,1]⟩=(0,false,0) from by decide] at h;exact h))
 have k:=qH (λ(w':World) (b:Below w.heap.size w w')=>(show Calls prog 14 #[.string ⟨#[]⟩,.string ⟨#[120]⟩,.int .i64 9] w' λe c=>e=.returned (.tuple #[.string ⟨#[]⟩,.int .i64 0,.int .i64 6])/\Below w'.heap.size w' c from by
  have h:=read_any C.iz ⟨#[]⟩ ⟨#[120]⟩ 9 w' (d H b) (by decide) (by decide) (by decide);rw[show rdv ⟨#[]⟩ ⟨#[120]⟩ 9=(⟨#[]⟩,0,6) from by unfold rdv rdz;rw[show dct ⟨#[120]⟩=(0,false,6) from by decide];rfl] at h;exact h))
 clear H C d;go_enter func10,ntmps10
 go_wp2_with (first
  |(go_at_call 13;(with_reducible refine n.o.mono ?_);rintro e t ⟨rfl,i⟩;have j:=qH i;clear i)
  |(go_at_call 14;(with_reducible refine qcb j (q.o _ j.o) ?_);intro c m)
  |(go_at_call 30;(with_reducible refine qcb m (p.o _) ?_);intro r g)
  |(go_at_call 14;(with_reducible refine qcb g (k.o _ g.o) ?_);intro s l))
 go_ret;exact⟨rfl,l.o⟩
theorem mE(d s:ByteArray)(w:World):Calls prog 9 #[.string d,.string s] w λe w'=>e=.returned (.bool (decide (4096<d.size\/1024<s.size)))/\w=w':=by
 obtain⟨b1,c⟩:∃b,decide (4096<d.size)=b:=⟨_,rfl⟩
 obtain⟨b2,a⟩:∃b,decide (1024<s.size)=b:=⟨_,rfl⟩
 have h:decide ((4096:Int)<(d.size:Int))=b1:=(by rw[<-c];exact Cj.2 (by omega));have g:decide ((1024:Int)<(s.size:Int))=b2:=(by rw[<-a];exact Cj.2 (by omega));rw[Bool.decide_or,c,a];cases b1<;>cases b2<;>
 · go_enter func9,ntmps9
   go_wp2;go_ret;exact⟨rfl,rfl⟩
