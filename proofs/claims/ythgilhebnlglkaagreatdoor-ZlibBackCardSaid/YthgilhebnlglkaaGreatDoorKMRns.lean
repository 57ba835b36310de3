import Derived.Test.YthgilhebnlglkaaGreatDoorKMMathT
import Derived.Test.YthgilhebnlglkaaGreatDoorChecked
import Derived.Deep.Fields
import Derived.Deep.RegionLaw
import Derived.BigQuiet
import Derived.WalkSpells
set_option linter.all false
set_option maxHeartbeats 0
set_option maxRecDepth 1000000
open Go.Proofs.Tryz
namespace Go.Proofs.YthgilhebnlglkaaGreatDoor
namespace U
open Go Go.RowKit M
open Go.ChangeShapes Go.WideShapes Go.Deep
theorem nadd_at(b o j:Nat):(⟨b,o,none⟩:Addr).add j=⟨b,o+j,none⟩:=by
 unfold Addr.add
 split
 · rename_i h;subst h;rfl
 · rfl
theorem info_of{e:TypeId}{z:Value}{size bytes:Nat}(hi:(prog.info? e).map (λi=>(i.zero,i.size,i.bytes))=some (some z,size,bytes)):∃i,prog.info? e=some i/\i.zero=some z/\i.size=size/\i.bytes=bytes:=by
 cases a: prog.info? e with
 |none=>rw[a] at hi;cases hi
 |some i=>rw[a] at hi;simp at hi;exact⟨i,rfl,hi.1,hi.2.1,hi.2.2⟩
theorem byteInfo:(prog.info? 5).map (λi=>(i.zero,i.size,i.bytes))=some (some (.int .u8 0),1,1):=by kernel_rfl
theorem sZ:(prog.info? 225).map (λi=>(i.zero,i.size,i.bytes))=some (some (.agg #[.int .u8 0,.int .u8 0]),2,2):=by kernel_rfl
structure IsBys(w:World)(A:Option Addr)(n:Nat)(l:List Nat):Prop where
 leng:l.length=n
 most:n<=maxLen
 good:∀x∈l,x<=255
 cells:n=0\/∃b o,A=some ⟨b,o,none⟩/\b<w.heap.size/\∀ (i x:Nat),l[i]? =some x->w.cell? ⟨b,o+i,none⟩=some (.int .u8 (x:Int))
section
variable {w w':World} {A:Option Addr} {n:Nat} {l:List Nat}
theorem IsBys.below(h:IsBys w A n l)(a:Below w.heap.size w w'):IsBys w' A n l:=by
 refine⟨h.leng,h.most,h.good,?_⟩;rcases h.cells with g|⟨b,o,g1,g2,g3⟩
 · exact .inl g
 · exact .inr ⟨b,o,g1,Ag g2 a.size,λi x c=>(a.cell g2).trans (g3 i x c)⟩
theorem IsBys.nil(w:World)(A:Option Addr):IsBys w A 0 []:=⟨rfl,qZ,λx a=>absurd a (by simp),.inl rfl⟩
theorem IsBys.at(h:IsBys w A n l)(a:0<n):∃b o,A=some ⟨b,o,none⟩/\b<w.heap.size/\∀i,i<n->w.cell? ⟨b,o+i,none⟩=some (.int .u8 (l.getD i 0:Nat)):=by
 rcases h.cells with g|⟨b,o,g1,g2,g3⟩
 · omega
 · exact⟨b,o,g1,g2,λi hi=>g3 i _ (by rw[List.getD,qE (by rw[h.leng];exact hi)];rfl)⟩
theorem IsBys.le(h:IsBys w A n l)(i:Nat):l.getD i 0<=255:=by
 by_cases hi:i<l.length
 · rw[List.getD,qE hi];exact h.good _ (AW _)
 · rw[List.getD,BW (by omega)];exact qZ
end
theorem IsBys.pre{w:World}{b o n:Nat}{l:List Nat}(h:IsBys w (some ⟨b,o,none⟩) n l){j:Nat}(k:j<=n):IsBys w (some ⟨b,o,none⟩) j (l.take j):=by
 have m:=h.leng;refine⟨by rw[Af];omega,by have:=h.most;omega,λx a=>h.good x (AO a),?_⟩;by_cases f:j=0
 · exact .inl f
 · obtain⟨b',g,e,c,d⟩:=h.at (by omega)
   simp only[Option.some.injEq,Addr.mk.injEq,AU] at e;obtain⟨rfl,rfl⟩:=e;refine .inr ⟨b,o,rfl,c,λi x a=> ?_⟩;have hi:i<j:=by
    have:=(An.1 a).1;rw[Af] at this;omega
   rw[AD,A7 hi] at a;rw[d i (by omega),List.getD,a];rfl
theorem IsBys.suf{w:World}{b o n:Nat}{l:List Nat}(h:IsBys w (some ⟨b,o,none⟩) n l){j:Nat}(q:j<=n)(a:Option Addr)(d:j<n->a=some ⟨b,o+j,none⟩):IsBys w a (n - j) (l.drop j):=by
 have k:=h.leng;refine⟨by rw[AF,k],by have:=h.most;omega,λx c=>h.good x (BV c),?_⟩;by_cases m:n - j=0
 · exact .inl m
 · obtain⟨b',p,e,f,g⟩:=h.at (by omega)
   simp only[Option.some.injEq,Addr.mk.injEq,AU] at e;obtain⟨rfl,rfl⟩:=e;refine .inr ⟨b,o+j,d (by omega),f,λi x c=> ?_⟩;rw[Bm] at c;have hi:j+i<n:=by
    have:=(An.1 c).1;omega
   have:=g (j+i) hi;rw[show o+j+i=o+(j+i) by omega,this,List.getD,c];rfl
def clb(l:List Nat):List Value:=l.map λx:Nat=>Value.int .u8 (x:Int)
theorem iv(l:List Nat):(clb l).length=l.length:=by unfold clb;simp
theorem iw(l r:List Nat):clb (l++r)=clb l++clb r:=by unfold clb;simp
def Owb(B:Nat)(w:World)(v:Value)(l:List Nat):Prop:=w.ownsRow B 5 1 v l.length (clb l)
section
variable {B:Nat} {w w':World} {v:Value} {l:List Nat}
theorem Owb.nil(B:Nat)(w:World):Owb B w (.slice none 0 0) []:=World.ownsRow_nil w B _ 1
theorem Owb.alloc(h:Owb B w v l)(o:Obj):Owb B (w.alloc o) v l:=World.ownsRow.alloc h o
theorem Owb.at(h:Owb B w v l)(e:∀g,v.ownBlock=some g->w'.heap[g]? =w.heap[g]?):Owb B w' v l:=aM h e
theorem Owb.lt(h:Owb B w v l):∀g,v.ownBlock=some g->B<=g/\g<w.heap.size:=World.ownsRow.lt h
theorem Owb.below(h:Owb B w v l)(b:Below w.heap.size w w'):Owb B w' v l:=h.at λg a=>b.block g (h.lt g a).2
theorem Owb.bys(h:Owb B w v l)(a:∀x∈l,x<=255)(d:l.length<=maxLen):∃A c,v=.slice A l.length c/\IsBys w A l.length l:=by
 rcases h.2 with⟨rfl,e⟩|⟨g,b,m,rfl,_,j,_⟩
 · exact⟨none,0,by rw[e],rfl,d,a,.inl e⟩
 · refine⟨_,b,rfl,rfl,d,a,.inr ⟨g,0,rfl,(qW.1 j).1,λi x f=> ?_⟩⟩
   have k:=h.cells (g:=g) rfl i (.int .u8 (x:Int)) (by unfold clb;rw[Am,f];rfl);rw[nadd_at] at k;exact k
end
theorem jF{f:Array Oper}{e:List Oper}{o:Oper}{a:Act}{w:World}{Q:Exit->Act->World->Prop}(p:o.guard=none)(s x:Operand)
 (G:o.op=.call {callee:=.builtin .append,args:= #[s,x],argTypes:= #[26,26]}) (B:Nat) (v:Value) (l:List Nat) (hs:a.eval s=v) (h:Owb B w v l) (b c:Nat) (y:Nat)
 (z:a.eval x=.slice (some ⟨b,0,none⟩) 1 c) (C:w.cell? ⟨b,0,none⟩=some (.int .u8 (y:Int))) (N:l.length<=3000000) (q:B<=w.heap.size)
 (D:∀g w',Owb B w' g (l++[y])->w.grownBy w' v.ownBlock->Below B w w'->wpList prog f Q e (a.put o.dst g) w'):wpList prog f Q (o::e) a w:=
 wpList_plain p λK m=>by
  obtain⟨i,E,I,J,L⟩:=info_of byteInfo
  obtain⟨g,w',M,H,r,_⟩:=run_append_own (P:= prog) w B 26 o.type 5 i _ 1 1 underlying26 E I J L rfl (by decide) v l.length (clb l) h ⟨b,0,none⟩ 1 c (clb [y]) rfl
   (λj u d=>by
    rw[nadd_at,Aa]
    match j,d with
    |0,d=>simp[clb] at d;subst d;exact C
    |j+1,d=>simp[clb] at d) (by intro u d;simp[clb] at d;rcases d with rfl;rfl) (by unfold maxLen;omega) (by omega) q
  unfold Oper.wp execOp;simp only[G,resolve,invoke,builtin,Sem.run_bind,Sem.run_pure,Result.andThen_ok,AV,Al,Av,hs,z,M];refine m _ _ (D g w' ?_ r ((Below.refl _ w).grown r q (λk F=>(World.ownsRow.lt h k F).1)));unfold Owb;rw[qA,iw];exact H
structure eC(w:World)(A:Option Addr)(n:Nat)(L:List Rn):Prop where
 leng:L.length=n
 most:n<=maxLen
 good:∀r∈L,r.s<=255/\r.e<=255
 cells:n=0\/∃b o,A=some ⟨b,o,none⟩/\b<w.heap.size/\∀ (i:Nat) (r:Rn),L[i]? =some r->w.cell? ⟨b,o+i*2,none⟩=some (.int .u8 (r.s:Int))/\w.cell? ⟨b,o+i*2+1,none⟩=some (.int .u8 (r.e:Int))
section
variable {w w':World} {A:Option Addr} {n:Nat} {L:List Rn}
theorem eC.below(h:eC w A n L)(a:Below w.heap.size w w'):eC w' A n L:=by
 refine⟨h.leng,h.most,h.good,?_⟩;rcases h.cells with g|⟨b,o,g1,g2,g3⟩
 · exact .inl g
 · exact .inr ⟨b,o,g1,Ag g2 a.size,λi x c=>⟨(a.cell g2).trans (g3 i x c).1,(a.cell g2).trans (g3 i x c).2⟩⟩
theorem eC.at(h:eC w A n L)(a:0<n):∃b o,A=some ⟨b,o,none⟩/\b<w.heap.size/\∀i,i<n->w.cell? ⟨b,o+i*2,none⟩=some (.int .u8 ((L.getD i default).s:Nat))/\w.cell? ⟨b,o+i*2+1,none⟩=some (.int .u8 ((L.getD i default).e:Nat)):=by
 rcases h.cells with g|⟨b,o,g1,g2,g3⟩
 · omega
 · exact⟨b,o,g1,g2,λi hi=>g3 i _ (by rw[List.getD,qE (by rw[h.leng];exact hi)];rfl)⟩
theorem eC.le(h:eC w A n L)(i:Nat):(L.getD i default).s<=255/\(L.getD i default).e<=255:=by
 by_cases hi:i<L.length
 · rw[List.getD,qE hi];exact h.good _ (AW _)
 · rw[List.getD,BW (by omega)];exact⟨qZ,qZ⟩
end
section
variable {H:Type} {enc:TypeId×Value->H} {w:World} {spare:Nat->Bool} {held:Bool}
end
def clr:List Rn->List Value
 |[]=> []
 |t::l=> .int .u8 (t.s:Int)::.int .u8 (t.e:Int)::clr l
theorem dW:∀l r,clr (l++r)=clr l++clr r
 |[],_=>rfl
 |t::l,r=>by simp only[Ac,clr];rw[dW l r]
theorem EJ:∀ (l:List Rn) (i:Nat) (t:Rn),l[i]? =some t->(clr l)[i*2]? =some (.int .u8 (t.s:Int))/\(clr l)[i*2+1]? =some (.int .u8 (t.e:Int))
 |[],i,t,h=>by simp at h
 |a::l,0,t,h=>by simp at h;subst h;simp[clr]
 |a::l,i+1,t,h=>by
  rw[C0] at h;obtain⟨b,c⟩:=EJ l i t h;simp only[clr];refine⟨?_,?_⟩
  · rw[show(i+1)*2=i*2+1+1 by omega];simpa using b
  · rw[show(i+1)*2+1=i*2+1+1+1 by omega];simpa using c
theorem mP:∀ (l:List Rn),∀u∈clr l,u.oneCell'=true
 |[],u,h=>by simp[clr] at h
 |t::l,u,h=>by
  simp only[clr,Ab] at h;rcases h with rfl|rfl|h
  · rfl
  · rfl
  · exact mP l u h
def Owr(B:Nat)(w:World)(v:Value)(L:List Rn):Prop:=w.ownsRow B 225 2 v L.length (clr L)
section
variable {B:Nat} {w w':World} {v:Value} {L:List Rn}
theorem Owr.nil(B:Nat)(w:World):Owr B w (.slice none 0 0) []:=World.ownsRow_nil w B _ 2
theorem Owr.alloc(h:Owr B w v L)(o:Obj):Owr B (w.alloc o) v L:=World.ownsRow.alloc h o
theorem Owr.at(h:Owr B w v L)(e:∀g,v.ownBlock=some g->w'.heap[g]? =w.heap[g]?):Owr B w' v L:=aM h e
theorem Owr.lt(h:Owr B w v L):∀g,v.ownBlock=some g->B<=g/\g<w.heap.size:=World.ownsRow.lt h
theorem Owr.below(h:Owr B w v L)(b:Below w.heap.size w w'):Owr B w' v L:=h.at λg a=>b.block g (h.lt g a).2
theorem Owr.weak{b:Nat}(h:Owr B w v L)(d:b<=B):Owr b w v L:=by
 obtain⟨c,a⟩:=h;refine⟨c,?_⟩;rcases a with a|⟨g,cap,cur,e,hg,r⟩
 · exact .inl a
 · exact .inr ⟨g,cap,cur,e,qK d hg,r⟩
theorem Owr.rns(h:Owr B w v L)(a:∀r∈L,r.s<=255/\r.e<=255)(d:L.length<=maxLen):∃A c,v=.slice A L.length c/\eC w A L.length L:=by
 rcases h.2 with⟨rfl,f⟩|⟨g,b,x,rfl,_,q,_⟩
 · exact⟨none,0,by rw[f],rfl,d,a,.inl f⟩
 · refine⟨_,b,rfl,rfl,d,a,.inr ⟨g,0,rfl,(qW.1 q).1,λi t p=> ?_⟩⟩
   obtain⟨m,y⟩:=EJ L i t p;have k:=λj u o=>h.cells (g:=g) rfl j u o
   simp only[nadd_at] at k;exact⟨k _ _ m,k _ _ y⟩
theorem Owr.ty(h:Owr B w v L):∀g,v.ownBlock=some g->∃cs,w.heap[g]? =some (.cells cs 225 (0,0)):=by
 intro g b;rcases h.2 with⟨rfl,_⟩|⟨g',d,a,rfl,_,c,_⟩
 · simp[Value.ownBlock] at b
 · simp[Value.ownBlock] at b;subst b;exact⟨a,c⟩
end
theorem wpList_ar{g:Array Oper}{f:List Oper}{o:Oper}{a:Act}{w:World}{Q:Exit->Act->World->Prop}(q:o.guard=none)(s x:Operand)
 (I:o.op=.call {callee:=.builtin .append,args:= #[s,x],argTypes:= #[221,221]}) (B:Nat) (v:Value) (L:List Rn) (hs:a.eval s=v) (h:Owr B w v L) (b c:Nat) (y e:Nat)
 (D:a.eval x=.slice (some ⟨b,0,none⟩) 1 c) (r:w.cell? ⟨b,0,none⟩=some (.int .u8 (y:Int))/\w.cell? ⟨b,1,none⟩=some (.int .u8 (e:Int))) (S:L.length<=3000000) (z:B<=w.heap.size)
 (E:∀m w',Owr B w' m (L++[⟨y,e⟩])->w.grownBy w' v.ownBlock->Below B w w'->wpList prog g Q f (a.put o.dst m) w'):wpList prog g Q (o::f) a w:=
 wpList_plain q λK p=>by
  obtain⟨i,F,M,N,O⟩:=info_of sZ
  obtain⟨m,w',R,J,C,_⟩:=run_append_own (P:= prog) w B 221 o.type 225 i _ 2 2 underlying221 F M N O rfl (by decide) v L.length (clr L) h ⟨b,0,none⟩ 1 c (clr [⟨y,e⟩]) rfl
   (λj u d=>by
    rw[nadd_at,Aa]
    match j,d with
    |0,d=>simp[clr] at d;subst d;exact r.1
    |1,d=>simp[clr] at d;subst d;exact r.2
    |j+2,d=>simp[clr] at d) (mP _) (by unfold maxLen;omega) (by omega) z
  unfold Oper.wp execOp;simp only[I,resolve,invoke,builtin,Sem.run_bind,Sem.run_pure,Result.andThen_ok,AV,Al,Av,hs,D,R];refine p _ _ (E m w' ?_ C ((Below.refl _ w).grown C z (λk G=>(World.ownsRow.lt h k G).1)));unfold Owr;rw[qA,dW];exact J
end U
namespace U
open Go Go.RowKit M
def RnP(W:World)(L:List Rn)(e:Ending)(w':World):Prop:=∃v,e=.returned (.tuple #[v,.int .i64 0])/\Owr W.heap.size w' v L/\Below W.heap.size W w'
end U
namespace V
open Go Go.RowKit M U
def put(n k:Nat):List Nat:=(List.range k).map λi=>n/2^i%2
theorem xH(n k:Nat):put n (k+1)=put n k++[n/2^k%2]:=by simp[put,Bi]
theorem put_length(n k:Nat):(put n k).length=k:=by simp[put]
def cdb(c size:Nat):List Nat:=(List.range size).map λi=>c/2^(size - 1 - i)%2
theorem cdb_length(c size:Nat):(cdb c size).length=size:=by simp[cdb]
section
variable {B P:Nat} {w w':World} {v:Value} {bs:List Nat}
end
def hdb(kind:Nat)(last:Bool):List Nat:=put (if last then 1 else 0) 1++put kind 2
theorem hdb_length(kind:Nat)(last:Bool):(hdb kind last).length=3:=by simp[hdb,put_length]
def upt(l:List Nat)(least:Nat):Nat:=(List.range l.length).foldl (λn i=>if 0<l.getD i 0 then max n (i+1) else n) least
def upk(l:List Nat)(least k:Nat):Nat:=(List.range k).foldl (λn i=>if 0<l.getD i 0 then max n (i+1) else n) least
theorem upk_succ(l:List Nat)(a k:Nat):upk l a (k+1)=if 0<l.getD k 0 then max (upk l a k) (k+1) else upk l a k:=by
 unfold upk;rw[Bi,List.foldl_append];rfl
theorem jJ(l:List Nat)(a:Nat):∀k,a<=upk l a k/\upk l a k<=max a k
 |0=>⟨qR,by unfold upk;exact Nat.le_max_left _ _⟩
 |k+1=>by
  have:=jJ l a k;rw[upk_succ]
  split<;>omega
def bty(s:ByteArray)(i:Nat):Nat:=(s.data.toList.getD i 0).toNat
theorem bty_lt(s:ByteArray)(i:Nat):bty s i<=255:=by unfold bty;have:=(s.data.toList.getD i 0).toNat_lt;omega
theorem Kc{s:ByteArray}{i:Nat}(h:i<s.size):(s[i]'h).toNat=bty s i:=by
 unfold bty;rw[List.getD,qE (by rw[As];exact h)];rfl
def byb(s:ByteArray)(k:Nat):List Nat:=(List.range k).flatMap λi=>put (bty s i) 8
theorem byb_succ(s:ByteArray)(k:Nat):byb s (k+1)=byb s k++put (bty s k) 8:=by unfold byb;rw[Bi,AL];simp
theorem byb_length(s:ByteArray):∀k,(byb s k).length=k*8
 |0=>rfl
 |k+1=>by rw[byb_succ,qA,byb_length s k,put_length];omega
def pd(n:Nat):Nat:=(8 - n%8)%8
def stb(o:Nat)(s:ByteArray)(last:Bool):List Nat:=hdb 0 last++List.replicate (pd (o+3)) 0++put s.size 16++put (65535 - s.size) 16++byb s s.size
theorem stb_length(o:Nat)(s:ByteArray)(last:Bool):(stb o s last).length=3+pd (o+3)+32+s.size*8:=by
 unfold stb;simp only[qA,hdb_length,AP,put_length,byb_length]
def stm(o:Nat)(s:ByteArray)(last:Bool):List Nat:=
 if h:s.size<=65535 then stb o s last else stb o (s.extract 0 65535) false++stm (o+(stb o (s.extract 0 65535) false).length) (s.extract 65535 s.size) last
termination_by s.size
decreasing_by
 rw[Ae];omega
theorem lN{o:Nat}{s:ByteArray}{last:Bool}(h:s.size<=65535):stm o s last=stb o s last:=by rw[stm,Bl h]
theorem nM{o:Nat}{s:ByteArray}{last:Bool}(h:¬s.size<=65535):stm o s last=stb o (s.extract 0 65535) false++stm (o+(stb o (s.extract 0 65535) false).length) (s.extract 65535 s.size) last:=by rw[stm,Bz h]
end V
namespace V
open Go Go.RowKit M U
open Go.ChangeShapes Go.WideShapes Go.Deep
structure Tk where
 l:Int
 n:Int
 d:Int
deriving DecidableEq
instance:Inhabited Tk:=⟨⟨0,0,0⟩⟩
structure Tk.ok(t:Tk):Prop where
 l:0<=t.l/\t.l<=255
 n: -9223372036854775808<=t.n/\t.n<=9223372036854775807
 d: -9223372036854775808<=t.d/\t.d<=9223372036854775807
def isB(t:Tk):Bool:=decide (t.n=0)&&decide (t.d=0)
def isM(t:Tk):Bool:=decide (t.l=0)&& (decide (3<=t.n)&& (decide (t.n<=258)&& (decide (1<=t.d)&&decide (t.d<=32768))))
def may(t:Tk):Bool:=isB t||isM t
theorem isB_iff{t:Tk}:isB t=true↔t.n=0/\t.d=0:=by unfold isB;simp
theorem isM_iff{t:Tk}:isM t=true↔t.l=0/\3<=t.n/\t.n<=258/\1<=t.d/\t.d<=32768:=by unfold isM;simp
theorem oL{t:Tk}(h:isM t=true):isB t=false:=by
 have:=isM_iff.1 h;cases q:isB t
 · rfl
 · have:=isB_iff.1 q;omega
structure Tk.lies(w:World)(b o i:Nat)(c:Tk):Prop where
 l:w.cell? ⟨b,o+i*3,none⟩=some (.int .u8 c.l)
 n:w.cell? ⟨b,o+i*3+1,none⟩=some (.int .i64 c.n)
 d:w.cell? ⟨b,o+i*3+2,none⟩=some (.int .i64 c.d)
structure IsTks(w:World)(ao:Option Addr)(len:Nat)(cs:List Tk):Prop where
 leng:cs.length=len
 most:len<=maxLen
 good:∀c∈cs,c.ok
 cells:len=0\/∃b o,ao=some ⟨b,o,none⟩/\b<w.heap.size/\∀ (i:Nat) (c:Tk),cs[i]? =some c->c.lies w b o i
theorem IsTks.below{w w':World}{e:Option Addr}{len:Nat}{cs:List Tk}(h:IsTks w e len cs)(a:Below w.heap.size w w'):IsTks w' e len cs:=by
 refine⟨h.leng,h.most,h.good,?_⟩;rcases h.cells with g|⟨b,o,g1,g2,g3⟩
 · exact .inl g
 · refine .inr ⟨b,o,g1,Ag g2 a.size,λi c f=> ?_⟩
   have k:=g3 i c f;exact⟨(a.cell g2).trans k.l,(a.cell g2).trans k.n,(a.cell g2).trans k.d⟩
theorem cadd_at(b o j:Nat):(⟨b,o,none⟩:Addr).add j=⟨b,o+j,none⟩:=by
 unfold Addr.add
 split
 · rename_i h;subst h;rfl
 · rfl
section
variable {H:Type} {enc:TypeId×Value->H} {w:World} {spare:Nat->Bool} {held:Bool}
end
theorem IsTks.at{w:World}{A:Option Addr}{n:Nat}{L:List Tk}(h:IsTks w A n L)(a:0<n):∃b o,A=some ⟨b,o,none⟩/\b<w.heap.size/\∀i (hi:i<n),w.cell? ⟨b,o+i*3,none⟩=some (.int .u8 (L.getD i default).l)/\w.cell? ⟨b,o+i*3+1,none⟩=some (.int .i64 (L.getD i default).n)/\w.cell? ⟨b,o+i*3+2,none⟩=some (.int .i64 (L.getD i default).d):=by
 rcases h.cells with g|⟨b,o,g1,g2,g3⟩
 · omega
 · refine⟨b,o,g1,g2,λi hi=> ?_⟩
   have c:=h.leng;have e:L[i]? =some (L.getD i default):=(by rw[List.getD,qE (by omega)];rfl);have k:=g3 i _ e;exact⟨k.l,k.n,k.d⟩
theorem gE(L:List Tk)(i:Nat)(hi:i<L.length):L.take (i+1)=L.take i++[L.getD i default]:=by
 rw[Bd,List.getD,qE hi];rfl
structure Sy where
 d:Bool
 n:Nat
 e:Nat
 b:Nat
deriving DecidableEq
instance:Inhabited Sy:=⟨⟨false,0,0,0⟩⟩
def sy1(t:Tk):List Sy:=if t.n=0 then[⟨false,t.l.toNat,0,0⟩] else[⟨false,257+lsy t.n.toNat,lex t.n.toNat,lb (lsy t.n.toNat)⟩,⟨true,dsy t.d.toNat,dex t.d.toNat,db (dsy t.d.toNat)⟩]
def sys(L:List Tk):List Sy:=L.flatMap sy1++[⟨false,256,0,0⟩]
theorem FG(t:Tk):(sy1 t).length<=2:=by unfold sy1;split<;>simp
theorem uW:∀L:List Tk,(L.flatMap sy1).length<=2*L.length
 |[]=>by simp
 |t::L=>by rw[AZ,qA,qC];have:=uW L;have:=FG t;omega
theorem yX(L:List Tk)(k:Nat)(a:k<L.length):(L.take (k+1)).flatMap sy1=(L.take k).flatMap sy1++sy1 (L.getD k default):=by
 rw[gE L k a,AL];simp
section
variable {B:Nat} {w w':World} {v:Value} {L:List Sy}
end
end V
namespace V
open Go Go.RowKit M U
def wgh(l1 l2:Nat->Nat):List Sy->Nat
 |[]=>0
 |y::S=>(if y.d=true then l2 y.n else l1 y.n)+y.b+wgh l1 l2 S
def ord:List Nat:=[16,17,18,0,8,7,9,6,10,5,11,4,12,3,13,2,14,1,15]
theorem tR(w:World)(g:Nat)(h:w.heap[g]? =some (.cells #[.int .u8 16,.int .u8 17,.int .u8 18,.int .u8 0,.int .u8 8,.int .u8 7,.int .u8 9,.int .u8 6,.int .u8 10,.int .u8 5,.int .u8 11,.int .u8 4,.int .u8 12,.int .u8 3,.int .u8 13,.int .u8 2,.int .u8 14,.int .u8 1,.int .u8 15] 5)):IsBys w (some ⟨g,0,none⟩) 19 ord:=by
 have e:(#[.int .u8 16,.int .u8 17,.int .u8 18,.int .u8 0,.int .u8 8,.int .u8 7,.int .u8 9,.int .u8 6,.int .u8 10,.int .u8 5,.int .u8 11,.int .u8 4,.int .u8 12,.int .u8 3,.int .u8 13,.int .u8 2,.int .u8 14,.int .u8 1,.int .u8 15]:Array Value)=(clb ord).toArray:=rfl;rw[e] at h;refine⟨rfl,by decide,by decide,.inr ⟨g,0,rfl,(qW.1 h).1,λi x a=> ?_⟩⟩;rw[Aa];simp only[World.cell?,h];unfold clb;rw[Cb,Am,a];rfl
theorem ic(l n d:Int)(w:World):
 Calls prog 229 #[.agg #[.int .u8 l,.int .i64 n,.int .i64 d]] w λe w'=>e=.returned (.bool (isB ⟨l,n,d⟩))/\Below w.heap.size w w':=by
 by_cases b:n=0
 · by_cases c:d=0
   · have a:isB ⟨l,n,d⟩=true:=isB_iff.2 ⟨b,c⟩
     rw[a];have g:(n==0)=true:=(by rw[AG];exact b);have h:(d==0)=true:=(by rw[AG];exact c);clear b c a;go_enter func229,ntmps229;go_wp2;go_ret;exact⟨rfl,qL⟩
   · have a:isB ⟨l,n,d⟩=false:=by cases q:isB ⟨l,n,d⟩ with|false=>rfl|true=>exact absurd (isB_iff.1 q).2 c
     rw[a];have g:(n==0)=true:=(by rw[AG];exact b);have h:(d==0)=false:=(by rw[qN];exact c);clear b c a;go_enter func229,ntmps229;go_wp2;go_ret;exact⟨rfl,qL⟩
 · have a:isB ⟨l,n,d⟩=false:=by cases q:isB ⟨l,n,d⟩ with|false=>rfl|true=>exact absurd (isB_iff.1 q).1 b
   rw[a];have g:(n==0)=false:=(by rw[qN];exact b);clear b a;go_enter func229,ntmps229;go_wp2;go_ret;exact⟨rfl,qL⟩
theorem fB(l n d:Int)(w:World):
 Calls prog 230 #[.agg #[.int .u8 l,.int .i64 n,.int .i64 d]] w λe w'=>e=.returned (.bool (isM ⟨l,n,d⟩))/\Below w.heap.size w w':=by
 have a:∀b,(decide (l=0)&& (decide (3<=n)&& (decide (n<=258)&& (decide (1<=d)&&decide (d<=32768)))))=b->isM ⟨l,n,d⟩=b:=λb h=>h
 by_cases c:l=0
 · have r:(l==0)=true:=by rw[AG];exact c
   by_cases g:3<=n
   · have i:decide (3<=n)=true:=q9T g
     by_cases j:n<=258
     · have k:decide (n<=258)=true:=q9T j
       by_cases m:1<=d
       · have o:decide (1<=d)=true:=q9T m
         by_cases p:d<=32768
         · have q:decide (d<=32768)=true:=q9T p
           rw[a true (by rw[i,k,o,q];simp[c])];clear c g j m p a;go_enter func230,ntmps230;go_wp2;go_ret;exact⟨rfl,qL⟩
         · have q:decide (d<=32768)=false:=qF p
           rw[a false (by rw[i,k,o,q];simp)];clear c g j m p a;go_enter func230,ntmps230;go_wp2;go_ret;exact⟨rfl,qL⟩
       · have o:decide (1<=d)=false:=qF m
         rw[a false (by rw[i,k,o];simp)];clear c g j m a;go_enter func230,ntmps230;go_wp2;go_ret;exact⟨rfl,qL⟩
     · have k:decide (n<=258)=false:=qF j
       rw[a false (by rw[i,k];simp)];clear c g j a;go_enter func230,ntmps230;go_wp2;go_ret;exact⟨rfl,qL⟩
   · have i:decide (3<=n)=false:=qF g
     rw[a false (by rw[i];simp)];clear c g a;go_enter func230,ntmps230;go_wp2;go_ret;exact⟨rfl,qL⟩
 · have r:(l==0)=false:=by rw[qN];exact c
   rw[a false (by simp[c])];clear c a;go_enter func230,ntmps230;go_wp2;go_ret;exact⟨rfl,qL⟩
theorem gN(l n d:Int)(w:World):
 Calls prog 194 #[.agg #[.int .u8 l,.int .i64 n,.int .i64 d]] w λe w'=>e=.returned (.bool (may ⟨l,n,d⟩))/\Below w.heap.size w w':=by
 have c:=ic l n d;have k:=fB l n d;have j:Below w.heap.size w (w.alloc (.cells #[.int .u8 l,.int .i64 n,.int .i64 d] 139)):=qL;have s:(w.alloc (.cells #[.int .u8 l,.int .i64 n,.int .i64 d] 139)).cell? ⟨w.heap.size,0,none⟩=some (.int .u8 l):=(by simp);have u:(w.alloc (.cells #[.int .u8 l,.int .i64 n,.int .i64 d] 139)).cell? ⟨w.heap.size,1,none⟩=some (.int .i64 n):=(by simp);have r:(w.alloc (.cells #[.int .u8 l,.int .i64 n,.int .i64 d] 139)).cell? ⟨w.heap.size,2,none⟩=some (.int .i64 d):=(by simp);obtain⟨y,E,D,h⟩:=qh4 s u r j;clear s u r j;by_cases i:isB ⟨l,n,d⟩=true
 · have g:may ⟨l,n,d⟩=true:=by unfold may;rw[i];rfl
   rw[g];rw[i] at c;clear g i;have m:=qH c;clear c k;go_enter func194,ntmps194;go_wp2_with (go_at_call 229;refine(m.o _).mono ?_;rintro e F ⟨rfl,a⟩;have q:=qH (h.o.trans (a.mono (by simp)));clear a);go_ret;exact⟨rfl,q.o⟩
 · have b:isB ⟨l,n,d⟩=false:=by simpa using i
   have g:may ⟨l,n,d⟩=isM ⟨l,n,d⟩:=(by unfold may;rw[b];rfl);rw[g];rw[b] at c;clear g i b;generalize I:isM ⟨l,n,d⟩=z at k ⊢;obtain⟨m,G⟩:=qh2 c k;clear c k I;go_enter func194,ntmps194;go_wp2_with (go_at_call 229;refine(m.o _).mono ?_;rintro e F ⟨rfl,a⟩;have c0:=(a.cell (p:=⟨w.heap.size,0,none⟩) (by simp)).trans y.o;have c1:=(a.cell (p:=⟨w.heap.size,1,none⟩) (by simp)).trans E.o;have J:=(a.cell (p:=⟨w.heap.size,2,none⟩) (by simp)).trans D.o;have q:=qH (h.o.trans (a.mono (by simp)));clear a);go_wp2_with (go_at_call 230;refine(G.o _).mono ?_;rintro e K ⟨rfl,x⟩;have C:=qbt q x;clear x);go_ret;exact⟨rfl,C.o⟩
end V
namespace V.Tx
def szo(t:Tk):Nat:=if isB t=true then 1 else if isM t=true then t.n.toNat else 0
def szs:List Tk->Nat
 |[]=>0
 |t::l=>szo t+szs l
theorem szs_append:∀ (l m:List Tk),szs (l++m)=szs l+szs m
 |[],m=>by simp[szs]
 |t::l,m=>by simp only[Ac,szs,szs_append l m];omega
theorem At(t:Tk):szo t<=258:=by
 unfold szo
 split
 · omega
 · split
   · rename_i h;have:=isM_iff.1 h;omega
   · omega
theorem szo_byte{t:Tk}(h:isB t=true):szo t=1:=by unfold szo;rw[A7 h]
theorem szo_match{t:Tk}(h:isM t=true):szo t=t.n.toNat:=by unfold szo;rw[oL h,A0 (by decide),A7 h]
theorem szs_le:∀l:List Tk,szs l<=258*l.length
 |[]=>by simp[szs]
 |t::l=>by have:=szs_le l;have:=At t;simp only[szs,qC];omega
def grow(b:List UInt8)(d:Nat):Nat->List UInt8
 |0=>b
 |k+1=>grow b d k++[(grow b d k).getD ((grow b d k).length - d) 0]
theorem grow_length(b:List UInt8)(d:Nat):∀k,(grow b d k).length=b.length+k
 |0=>rfl
 |k+1=>by simp only[grow,qA,qC,AB,grow_length b d k];omega
def step(d0:Nat)(b:List UInt8)(t:Tk):Int×List UInt8:=
 if may t=false then(2,b)
 else if(b.length:Int)<t.d then(7,b)
 else if 1048576<b.length - d0+szo t then(5,b)
 else if isB t=true then(0,b++[UInt8.ofNat t.l.toNat])
 else(0,grow b t.d.toNat t.n.toNat)
def run(d0:Nat)(b:List UInt8):List Tk->Int×List UInt8
 |[]=>(0,b)
 |t::l=>if(step d0 b t).1=0 then run d0 (step d0 b t).2 l else((step d0 b t).1,[])
theorem run_go{a:Nat}{b:List UInt8}{t:Tk}{l:List Tk}(h:(step a b t).1=0):run a b (t::l)=run a (step a b t).2 l:=by rw[run,A7 h]
theorem run_no{a:Nat}{b:List UInt8}{t:Tk}{l:List Tk}(h:(step a b t).1≠0):run a b (t::l)=((step a b t).1,[]):=by rw[run,A0 h]
section
variable {d0:Nat} {b:List UInt8} {t:Tk}
theorem step_arg(h:may t=false):step d0 b t=(2,b):=by unfold step;rw[A7 h]
theorem step_far(h:may t=true)(a:(b.length:Int)<t.d):step d0 b t=(7,b):=by unfold step;rw[A0 (by rw[h];decide),A7 a]
theorem step_long(h:may t=true)(a:¬(b.length:Int)<t.d)(c:1048576<b.length - d0+szo t):step d0 b t=(5,b):=by
 unfold step;rw[A0 (by rw[h];decide),A0 a,A7 c]
theorem step_byte(c:¬(b.length:Int)<t.d)(e:¬1048576<b.length - d0+szo t)(a:isB t=true):step d0 b t=(0,b++[UInt8.ofNat t.l.toNat]):=by
 have h:may t=true:=(by unfold may;rw[a];rfl);unfold step;rw[A0 (by rw[h];decide),A0 c,A0 e,A7 a]
theorem step_match(c:¬(b.length:Int)<t.d)(e:¬1048576<b.length - d0+szo t)(a:isM t=true):step d0 b t=(0,grow b t.d.toNat t.n.toNat):=by
 have h:may t=true:=(by unfold may;rw[a,Bool.or_true]);unfold step;rw[A0 (by rw[h];decide),A0 c,A0 e,A0 (by rw[oL a];decide)]
theorem step_ways(d0:Nat)(b:List UInt8)(t:Tk):
 (may t=false)\/(may t=true/\(b.length:Int)<t.d)\/(may t=true/\¬(b.length:Int)<t.d/\1048576<b.length - d0+szo t)\/
 (¬(b.length:Int)<t.d/\¬1048576<b.length - d0+szo t/\isB t=true)\/(¬(b.length:Int)<t.d/\¬1048576<b.length - d0+szo t/\isM t=true):=by
 by_cases h:may t=false
 · exact .inl h
 have c:may t=true:=(by simpa using h);by_cases a:(b.length:Int)<t.d
 · exact .inr (.inl ⟨c,a⟩)
 by_cases e:1048576<b.length - d0+szo t
 · exact .inr (.inr (.inl ⟨c,a,e⟩))
 have h4:=c;unfold may at h4;rw[Cp] at h4;rcases h4 with h4|h4
 · exact .inr (.inr (.inr (.inl ⟨a,e,h4⟩)))
 · exact .inr (.inr (.inr (.inr ⟨a,e,h4⟩)))
theorem step_len(h:(step d0 b t).1=0):(step d0 b t).2.length=b.length+szo t/\b.length - d0+szo t<=1048576:=by
 rcases step_ways d0 b t with h1|⟨h1,h2⟩|⟨h1,h2,h3⟩|⟨h2,h3,h4⟩|⟨h2,h3,h4⟩
 · rw[step_arg h1] at h;exact absurd h (by simp)
 · rw[step_far h1 h2] at h;exact absurd h (by simp)
 · rw[step_long h1 h2 h3] at h;exact absurd h (by simp)
 · rw[step_byte h2 h3 h4,szo_byte h4,qA];rw[szo_byte h4] at h3;exact⟨rfl,by omega⟩
 · rw[step_match h2 h3 h4,szo_match h4,grow_length];rw[szo_match h4] at h3;exact⟨rfl,by omega⟩
end
end V.Tx
namespace V.Px
def szo(t:Tk):Nat:=if isB t=true then 1 else if isM t=true then t.n.toNat else 0
theorem szo_byte{t:Tk}(h:isB t=true):szo t=1:=by unfold szo;rw[A7 h]
theorem szo_match{t:Tk}(h:isM t=true):szo t=t.n.toNat:=by unfold szo;rw[oL h,A0 (by decide),A7 h]
def grow(b:List UInt8)(d:Nat):Nat->List UInt8
 |0=>b
 |k+1=>grow b d k++[(grow b d k).getD ((grow b d k).length - d) 0]
def step(d0:Nat)(b:List UInt8)(t:Tk):Int×List UInt8:=
 if may t=false then(2,b)
 else if(b.length:Int)<t.d then(7,b)
 else if 1048576<b.length - d0+szo t then(5,b)
 else if isB t=true then(0,b++[UInt8.ofNat t.l.toNat])
 else(0,grow b t.d.toNat t.n.toNat)
def run(d0:Nat)(b:List UInt8):List Tk->Int×List UInt8
 |[]=>(0,b)
 |t::l=>if(step d0 b t).1=0 then run d0 (step d0 b t).2 l else((step d0 b t).1,[])
theorem run_go{d0:Nat}{b:List UInt8}{t:Tk}{l:List Tk}(h:(step d0 b t).1=0):run d0 b (t::l)=run d0 (step d0 b t).2 l:=by rw[run,A7 h]
section
variable {d0:Nat} {b:List UInt8} {t:Tk}
theorem step_byte(c:¬(b.length:Int)<t.d)(e:¬1048576<b.length - d0+szo t)(a:isB t=true):step d0 b t=(0,b++[UInt8.ofNat t.l.toNat]):=by
 have h:may t=true:=(by unfold may;rw[a];rfl);unfold step;rw[A0 (by rw[h];decide),A0 c,A0 e,A7 a]
theorem step_match(c:¬(b.length:Int)<t.d)(e:¬1048576<b.length - d0+szo t)(a:isM t=true):step d0 b t=(0,grow b t.d.toNat t.n.toNat):=by
 have h:may t=true:=(by unfold may;rw[a,Bool.or_true]);unfold step;rw[A0 (by rw[h];decide),A0 c,A0 e,A0 (by rw[oL a];decide)]
