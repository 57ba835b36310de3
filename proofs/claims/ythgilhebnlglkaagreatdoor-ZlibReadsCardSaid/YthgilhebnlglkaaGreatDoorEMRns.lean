import Derived.Deep.Fields
import Derived.Test.YthgilhebnlglkaaGreatDoorEMRsA
set_option linter.all false
set_option maxHeartbeats 8000000
set_option maxRecDepth 1000000
open Go.Proofs.Tryz
namespace Go.Proofs.YthgilhebnlglkaaGreatDoor.U
open Go Go.RowKit M
open Go.ChangeShapes Go.WideShapes Go.Deep
theorem nadd_at(b o j:Nat):(⟨b,o,none⟩:Addr).add j=⟨b,o+j,none⟩:=by
 unfold Addr.add
 split
 · rename_i h;subst h;rfl
 · rfl
theorem info_of{e:TypeId}{z:Value}{size bytes:Nat}(hi:(prog.info? e).map (λi=>(i.zero,i.size,i.bytes))=some (some z,size,bytes)):∃i,prog.info? e=some i/\i.zero=some z/\i.size=size/\i.bytes=bytes:=by
 cases hq: prog.info? e with
 |none=>rw[hq] at hi;cases hi
 |some i=>rw[hq] at hi;simp at hi;exact⟨i,rfl,hi.1,hi.2.1,hi.2.2⟩
theorem byteInfo:(prog.info? 5).map (λi=>(i.zero,i.size,i.bytes))=some (some (.int .u8 0),1,1):=by kernel_rfl
theorem zaf:(prog.info? 225).map (λi=>(i.zero,i.size,i.bytes))=some (some (.agg #[.int .u8 0,.int .u8 0]),2,2):=by kernel_rfl
structure IsBys(w:World)(A:Option Addr)(n:Nat)(l:List Nat):Prop where
 leng:l.length=n
 most:n<=maxLen
 good:∀x∈l,x<=255
 cells:n=0\/∃b o,A=some ⟨b,o,none⟩/\b<w.heap.size/\∀ (i x:Nat),l[i]? =some x->w.cell? ⟨b,o+i,none⟩=some (.int .u8 (x:Int))
section
variable {w w':World} {A:Option Addr} {n:Nat} {l:List Nat}
theorem IsBys.below(h:IsBys w A n l)(hb:Below w.heap.size w w'):IsBys w' A n l:=by
 refine⟨h.leng,h.most,h.good,?_⟩;rcases h.cells with g|⟨b,o,g1,g2,g3⟩
 · exact .inl g
 · exact .inr ⟨b,o,g1,Nat.lt_of_lt_of_le g2 hb.size,λi x hx=>(hb.cell g2).trans (g3 i x hx)⟩
theorem IsBys.nil(w:World)(A:Option Addr):IsBys w A 0 []:=⟨rfl,qZ,λx hx=>absurd hx (by simp),.inl rfl⟩
theorem IsBys.at(h:IsBys w A n l)(hn:0<n):∃b o,A=some ⟨b,o,none⟩/\b<w.heap.size/\∀i,i<n->w.cell? ⟨b,o+i,none⟩=some (.int .u8 (l.getD i 0:Nat)):=by
 rcases h.cells with g|⟨b,o,g1,g2,g3⟩
 · omega
 · exact⟨b,o,g1,g2,λi hi=>g3 i _ (by rw[List.getD,qE (by rw[h.leng];exact hi)];rfl)⟩
theorem IsBys.le(h:IsBys w A n l)(i:Nat):l.getD i 0<=255:=by
 by_cases hi:i<l.length
 · rw[List.getD,qE hi];exact h.good _ (List.getElem_mem _)
 · rw[List.getD,List.getElem?_eq_none (by omega)];exact qZ
end
theorem IsBys.pre{w:World}{b o n:Nat}{l:List Nat}(h:IsBys w (some ⟨b,o,none⟩) n l){j:Nat}(hj:j<=n):IsBys w (some ⟨b,o,none⟩) j (l.take j):=by
 have hl:=h.leng;refine⟨by rw[List.length_take];omega,by have:=h.most;omega,λx hx=>h.good x (List.mem_of_mem_take hx),?_⟩;by_cases h0:j=0
 · exact .inl h0
 · obtain⟨b',o',e,g1,g2⟩:=h.at (by omega)
   simp only[Option.some.injEq,Addr.mk.injEq,and_true] at e;obtain⟨rfl,rfl⟩:=e;refine .inr ⟨b,o,rfl,g1,λi x hx=> ?_⟩;have hi:i<j:=by
    have:=(List.getElem?_eq_some_iff.1 hx).1;rw[List.length_take] at this;omega
   rw[List.getElem?_take,if_pos hi] at hx;rw[g2 i (by omega),List.getD,hx];rfl
theorem IsBys.suf{w:World}{b o n:Nat}{l:List Nat}(h:IsBys w (some ⟨b,o,none⟩) n l){j:Nat}(hj:j<=n)(a:Option Addr)(ha:j<n->a=some ⟨b,o+j,none⟩):IsBys w a (n - j) (l.drop j):=by
 have hl:=h.leng;refine⟨by rw[List.length_drop,hl],by have:=h.most;omega,λx hx=>h.good x (List.mem_of_mem_drop hx),?_⟩;by_cases h0:n - j=0
 · exact .inl h0
 · obtain⟨b',o',e,g1,g2⟩:=h.at (by omega)
   simp only[Option.some.injEq,Addr.mk.injEq,and_true] at e;obtain⟨rfl,rfl⟩:=e;refine .inr ⟨b,o+j,ha (by omega),g1,λi x hx=> ?_⟩;rw[List.getElem?_drop] at hx;have hi:j+i<n:=by
    have:=(List.getElem?_eq_some_iff.1 hx).1;omega
   have:=g2 (j+i) hi;rw[show o+j+i=o+(j+i) by omega,this,List.getD,hx];rfl
def clb(l:List Nat):List Value:=l.map λx:Nat=>Value.int .u8 (x:Int)
theorem z47(l:List Nat):(clb l).length=l.length:=by unfold clb;simp
theorem z48(l r:List Nat):clb (l++r)=clb l++clb r:=by unfold clb;simp
def Owb(B:Nat)(w:World)(v:Value)(l:List Nat):Prop:=w.ownsRow B 5 1 v l.length (clb l)
section
variable {B:Nat} {w w':World} {v:Value} {l:List Nat}
theorem Owb.nil(B:Nat)(w:World):Owb B w (.slice none 0 0) []:=World.ownsRow_nil w B _ 1
theorem Owb.alloc(h:Owb B w v l)(o:Obj):Owb B (w.alloc o) v l:=World.ownsRow.alloc h o
theorem Owb.at(h:Owb B w v l)(e:∀g,v.ownBlock=some g->w'.heap[g]? =w.heap[g]?):Owb B w' v l:=z0F h e
theorem Owb.lt(h:Owb B w v l):∀g,v.ownBlock=some g->B<=g/\g<w.heap.size:=World.ownsRow.lt h
theorem Owb.below(h:Owb B w v l)(hb:Below w.heap.size w w'):Owb B w' v l:=h.at λg hg=>hb.block g (h.lt g hg).2
theorem Owb.bys(h:Owb B w v l)(hok:∀x∈l,x<=255)(hm:l.length<=maxLen):∃A c,v=.slice A l.length c/\IsBys w A l.length l:=by
 rcases h.2 with⟨rfl,h0⟩|⟨g,cap,cur,rfl,_,hh,_⟩
 · exact⟨none,0,by rw[h0],rfl,hm,hok,.inl h0⟩
 · refine⟨_,cap,rfl,rfl,hm,hok,.inr ⟨g,0,rfl,(qW.1 hh).1,λi x hx=> ?_⟩⟩
   have k:=h.cells (g:=g) rfl i (.int .u8 (x:Int)) (by unfold clb;rw[List.getElem?_map,hx];rfl);rw[nadd_at] at k;exact k
end
theorem wpList_ab{ops:Array Oper}{rest:List Oper}{o:Oper}{a:Act}{w:World}{Q:Exit->Act->World->Prop}(hgd:o.guard=none)(s x:Operand)
 (ho:o.op=.call {callee:=.builtin .append,args:= #[s,x],argTypes:= #[26,26]}) (B:Nat) (v:Value) (l:List Nat) (hs:a.eval s=v) (h:Owb B w v l) (b c:Nat) (y:Nat)
 (hx:a.eval x=.slice (some ⟨b,0,none⟩) 1 c) (hc:w.cell? ⟨b,0,none⟩=some (.int .u8 (y:Int))) (hL:l.length<=3000000) (hB:B<=w.heap.size)
 (hK:∀v' w',Owb B w' v' (l++[y])->w.grownBy w' v.ownBlock->Below B w w'->wpList prog ops Q rest (a.put o.dst v') w'):wpList prog ops Q (o::rest) a w:=
 wpList_plain hgd λK hK'=>by
  obtain⟨i,h1,h2,h3,h4⟩:=info_of byteInfo
  obtain⟨v',w',r1,r2,r3,_⟩:=run_append_own (P:= prog) w B 26 o.type 5 i _ 1 1 underlying26 h1 h2 h3 h4 rfl (by decide) v l.length (clb l) h ⟨b,0,none⟩ 1 c (clb [y]) rfl
   (λj u hu=>by
    rw[nadd_at,Nat.zero_add]
    match j,hu with
    |0,hu=>simp[clb] at hu;subst hu;exact hc
    |j+1,hu=>simp[clb] at hu) (by intro u hu;simp[clb] at hu;rcases hu with rfl;rfl) (by unfold maxLen;omega) (by omega) hB
  unfold Oper.wp execOp;simp only[ho,resolve,invoke,builtin,Sem.run_bind,Sem.run_pure,Result.andThen_ok,List.map_toArray,List.map_cons,List.map_nil,hs,hx,r1];refine hK' _ _ (hK v' w' ?_ r3 ((Below.refl _ w).grown r3 hB (λk hk=>(World.ownsRow.lt h k hk).1)));unfold Owb;rw[qA,z48];exact r2
structure z2q(w:World)(A:Option Addr)(n:Nat)(L:List Rn):Prop where
 leng:L.length=n
 most:n<=maxLen
 good:∀r∈L,r.s<=255/\r.e<=255
 cells:n=0\/∃b o,A=some ⟨b,o,none⟩/\b<w.heap.size/\∀ (i:Nat) (r:Rn),L[i]? =some r->w.cell? ⟨b,o+i*2,none⟩=some (.int .u8 (r.s:Int))/\w.cell? ⟨b,o+i*2+1,none⟩=some (.int .u8 (r.e:Int))
section
variable {w w':World} {A:Option Addr} {n:Nat} {L:List Rn}
theorem z2q.below(h:z2q w A n L)(hb:Below w.heap.size w w'):z2q w' A n L:=by
 refine⟨h.leng,h.most,h.good,?_⟩;rcases h.cells with g|⟨b,o,g1,g2,g3⟩
 · exact .inl g
 · exact .inr ⟨b,o,g1,Nat.lt_of_lt_of_le g2 hb.size,λi x hx=>⟨(hb.cell g2).trans (g3 i x hx).1,(hb.cell g2).trans (g3 i x hx).2⟩⟩
theorem z2q.at(h:z2q w A n L)(hn:0<n):∃b o,A=some ⟨b,o,none⟩/\b<w.heap.size/\∀i,i<n->w.cell? ⟨b,o+i*2,none⟩=some (.int .u8 ((L.getD i default).s:Nat))/\w.cell? ⟨b,o+i*2+1,none⟩=some (.int .u8 ((L.getD i default).e:Nat)):=by
 rcases h.cells with g|⟨b,o,g1,g2,g3⟩
 · omega
 · exact⟨b,o,g1,g2,λi hi=>g3 i _ (by rw[List.getD,qE (by rw[h.leng];exact hi)];rfl)⟩
theorem z2q.le(h:z2q w A n L)(i:Nat):(L.getD i default).s<=255/\(L.getD i default).e<=255:=by
 by_cases hi:i<L.length
 · rw[List.getD,qE hi];exact h.good _ (List.getElem_mem _)
 · rw[List.getD,List.getElem?_eq_none (by omega)];exact⟨qZ,qZ⟩
end
section
variable {H:Type} {enc:TypeId×Value->H} {w:World} {spare:Nat->Bool} {held:Bool}
end
def clr:List Rn->List Value
 |[]=> []
 |t::l=> .int .u8 (t.s:Int)::.int .u8 (t.e:Int)::clr l
theorem z2d:∀l r,clr (l++r)=clr l++clr r
 |[],_=>rfl
 |t::l,r=>by simp only[List.cons_append,clr];rw[z2d l r]
theorem zfK:∀ (l:List Rn) (i:Nat) (t:Rn),l[i]? =some t->(clr l)[i*2]? =some (.int .u8 (t.s:Int))/\(clr l)[i*2+1]? =some (.int .u8 (t.e:Int))
 |[],i,t,h=>by simp at h
 |a::l,0,t,h=>by simp at h;subst h;simp[clr]
 |a::l,i+1,t,h=>by
  rw[List.getElem?_cons_succ] at h;obtain⟨h1,h2⟩:=zfK l i t h;simp only[clr];refine⟨?_,?_⟩
  · rw[show(i+1)*2=i*2+1+1 by omega];simpa using h1
  · rw[show(i+1)*2+1=i*2+1+1+1 by omega];simpa using h2
theorem z6M:∀ (l:List Rn),∀u∈clr l,u.oneCell'=true
 |[],u,h=>by simp[clr] at h
 |t::l,u,h=>by
  simp only[clr,List.mem_cons] at h;rcases h with rfl|rfl|h
  · rfl
  · rfl
  · exact z6M l u h
def Owr(B:Nat)(w:World)(v:Value)(L:List Rn):Prop:=w.ownsRow B 225 2 v L.length (clr L)
section
variable {B:Nat} {w w':World} {v:Value} {L:List Rn}
theorem Owr.nil(B:Nat)(w:World):Owr B w (.slice none 0 0) []:=World.ownsRow_nil w B _ 2
theorem Owr.alloc(h:Owr B w v L)(o:Obj):Owr B (w.alloc o) v L:=World.ownsRow.alloc h o
theorem Owr.at(h:Owr B w v L)(e:∀g,v.ownBlock=some g->w'.heap[g]? =w.heap[g]?):Owr B w' v L:=z0F h e
theorem Owr.lt(h:Owr B w v L):∀g,v.ownBlock=some g->B<=g/\g<w.heap.size:=World.ownsRow.lt h
theorem Owr.below(h:Owr B w v L)(hb:Below w.heap.size w w'):Owr B w' v L:=h.at λg hg=>hb.block g (h.lt g hg).2
theorem Owr.weak{B':Nat}(h:Owr B w v L)(hB:B'<=B):Owr B' w v L:=by
 obtain⟨h1,h2⟩:=h;refine⟨h1,?_⟩;rcases h2 with h2|⟨g,cap,cur,e,hg,r⟩
 · exact .inl h2
 · exact .inr ⟨g,cap,cur,e,qK hB hg,r⟩
theorem Owr.rns(h:Owr B w v L)(hok:∀r∈L,r.s<=255/\r.e<=255)(hm:L.length<=maxLen):∃A c,v=.slice A L.length c/\z2q w A L.length L:=by
 rcases h.2 with⟨rfl,h0⟩|⟨g,cap,cur,rfl,_,hh,_⟩
 · exact⟨none,0,by rw[h0],rfl,hm,hok,.inl h0⟩
 · refine⟨_,cap,rfl,rfl,hm,hok,.inr ⟨g,0,rfl,(qW.1 hh).1,λi t ht=> ?_⟩⟩
   obtain⟨h1,h2⟩:=zfK L i t ht;have k:=λj u hu=>h.cells (g:=g) rfl j u hu
   simp only[nadd_at] at k;exact⟨k _ _ h1,k _ _ h2⟩
theorem Owr.ty(h:Owr B w v L):∀g,v.ownBlock=some g->∃cs,w.heap[g]? =some (.cells cs 225 (0,0)):=by
 intro g hg;rcases h.2 with⟨rfl,_⟩|⟨g',cap,cur,rfl,_,hh,_⟩
 · simp[Value.ownBlock] at hg
 · simp[Value.ownBlock] at hg;subst hg;exact⟨cur,hh⟩
end
theorem wpList_ar{ops:Array Oper}{rest:List Oper}{o:Oper}{a:Act}{w:World}{Q:Exit->Act->World->Prop}(hgd:o.guard=none)(s x:Operand)
 (ho:o.op=.call {callee:=.builtin .append,args:= #[s,x],argTypes:= #[221,221]}) (B:Nat) (v:Value) (L:List Rn) (hs:a.eval s=v) (h:Owr B w v L) (b c:Nat) (y e:Nat)
 (hx:a.eval x=.slice (some ⟨b,0,none⟩) 1 c) (hc:w.cell? ⟨b,0,none⟩=some (.int .u8 (y:Int))/\w.cell? ⟨b,1,none⟩=some (.int .u8 (e:Int))) (hL:L.length<=3000000) (hB:B<=w.heap.size)
 (hK:∀v' w',Owr B w' v' (L++[⟨y,e⟩])->w.grownBy w' v.ownBlock->Below B w w'->wpList prog ops Q rest (a.put o.dst v') w'):wpList prog ops Q (o::rest) a w:=
 wpList_plain hgd λK hK'=>by
  obtain⟨i,h1,h2,h3,h4⟩:=info_of zaf
  obtain⟨v',w',r1,r2,r3,_⟩:=run_append_own (P:= prog) w B 221 o.type 225 i _ 2 2 underlying221 h1 h2 h3 h4 rfl (by decide) v L.length (clr L) h ⟨b,0,none⟩ 1 c (clr [⟨y,e⟩]) rfl
   (λj u hu=>by
    rw[nadd_at,Nat.zero_add]
    match j,hu with
    |0,hu=>simp[clr] at hu;subst hu;exact hc.1
    |1,hu=>simp[clr] at hu;subst hu;exact hc.2
    |j+2,hu=>simp[clr] at hu) (z6M _) (by unfold maxLen;omega) (by omega) hB
  unfold Oper.wp execOp;simp only[ho,resolve,invoke,builtin,Sem.run_bind,Sem.run_pure,Result.andThen_ok,List.map_toArray,List.map_cons,List.map_nil,hs,hx,r1];refine hK' _ _ (hK v' w' ?_ r3 ((Below.refl _ w).grown r3 hB (λk hk=>(World.ownsRow.lt h k hk).1)));unfold Owr;rw[qA,z2d];exact r2
end Go.Proofs.YthgilhebnlglkaaGreatDoor.U
namespace Go.Proofs.YthgilhebnlglkaaGreatDoor.U
open Go Go.RowKit M
theorem rbits_any(s:Nat)(w:World)(hs:s<=255):Calls prog 151 #[.int .u8 s] w λx w'=>x=.returned (.int .i64 (rbs s))/\w=w':=by
 have hc:s<16\/s=16\/s=17\/s=18\/18<s:=(by omega);rcases hc with h|h|h|h|h
 · have ht:rbs s=0:=by unfold rbs;split<;>first|omega|(split<;>first|omega|(split<;>first|omega|(split<;>omega)))
   rw[ht];have d_s16:decide ((s:Int)<16)=true:=q9T (by omega);clear h ht;go_enter func151,ntmps151;go_wp2;go_ret;exact⟨rfl,rfl⟩
 · have ht:rbs s=2:=by unfold rbs;split<;>first|omega|(split<;>first|omega|(split<;>first|omega|(split<;>omega)))
   rw[ht];have d_s16:decide ((s:Int)<16)=false:=qF (by omega);have e_s16:((s:Int)==16)=true:=(by rw[beq_iff_eq];omega);clear h ht;go_enter func151,ntmps151;go_wp2;go_ret;exact⟨rfl,rfl⟩
 · have ht:rbs s=3:=by unfold rbs;split<;>first|omega|(split<;>first|omega|(split<;>first|omega|(split<;>omega)))
   rw[ht];have d_s16:decide ((s:Int)<16)=false:=qF (by omega);have e_s16:((s:Int)==16)=false:=(by rw[qN];omega);have e_s17:((s:Int)==17)=true:=(by rw[beq_iff_eq];omega);clear h ht;go_enter func151,ntmps151;go_wp2;go_ret;exact⟨rfl,rfl⟩
 · have ht:rbs s=7:=by unfold rbs;split<;>first|omega|(split<;>first|omega|(split<;>first|omega|(split<;>omega)))
   rw[ht];have d_s16:decide ((s:Int)<16)=false:=qF (by omega);have e_s16:((s:Int)==16)=false:=(by rw[qN];omega);have e_s17:((s:Int)==17)=false:=(by rw[qN];omega);have e_s18:((s:Int)==18)=true:=(by rw[beq_iff_eq];omega);clear h ht;go_enter func151,ntmps151;go_wp2;go_ret;exact⟨rfl,rfl⟩
 · have ht:rbs s= -1:=by unfold rbs;split<;>first|omega|(split<;>first|omega|(split<;>first|omega|(split<;>omega)))
   rw[ht];have d_s16:decide ((s:Int)<16)=false:=qF (by omega);have e_s16:((s:Int)==16)=false:=(by rw[qN];omega);have e_s17:((s:Int)==17)=false:=(by rw[qN];omega);have e_s18:((s:Int)==18)=false:=(by rw[qN];omega);clear h ht;go_enter func151,ntmps151;go_wp2;go_ret;exact⟨rfl,rfl⟩
def RnP(W:World)(L:List Rn)(e:Ending)(w':World):Prop:=∃v,e=.returned (.tuple #[v,.int .i64 0])/\Owr W.heap.size w' v L/\Below W.heap.size W w'
theorem rtimes_any(s e:Nat)(w:World)(hs:s<=255)(he:e<=255):Calls prog 182 #[.agg #[.int .u8 s,.int .u8 e]] w λx w'=>x=.returned (.int .i64 (tms ⟨s,e⟩:Nat))/\Below w.heap.size w w':=by
 have hc:(s<16/\e=0)\/(s<16/\e≠0)\/(s=16/\e<4)\/(s=16/\4<=e)\/(s=17/\e<8)\/(s=17/\8<=e)\/(s=18/\e<128)\/(s=18/\128<=e)\/(18<s):=(by omega);rcases hc with h|h|h|h|h|h|h|h|h
 · have ht:tms ⟨s,e⟩=1:=by unfold tms;simp only;split<;>first|omega|(split<;>first|omega|(split<;>first|omega|(split<;>omega)))
   rw[ht];have d_s16:decide ((s:Int)<16)=true:=q9T (by omega);have e_e0:((e:Int)==0)=true:=(by rw[beq_iff_eq];omega);clear h ht;go_enter func182,ntmps182;go_wp2;go_ret;exact⟨by simp,qL⟩
 · have ht:tms ⟨s,e⟩=0:=by unfold tms;simp only;split<;>first|omega|(split<;>first|omega|(split<;>first|omega|(split<;>omega)))
   rw[ht];have d_s16:decide ((s:Int)<16)=true:=q9T (by omega);have e_e0:((e:Int)==0)=false:=(by rw[qN];omega);have e_s16:((s:Int)==16)=false:=(by rw[qN];omega);have e_s17:((s:Int)==17)=false:=(by rw[qN];omega);have e_s18:((s:Int)==18)=false:=(by rw[qN];omega);clear h ht;go_enter func182,ntmps182;go_wp2;go_ret;exact⟨by simp,qL⟩
 · have ht:tms ⟨s,e⟩=3+e:=by unfold tms;simp only;split<;>first|omega|(split<;>first|omega|(split<;>first|omega|(split<;>omega)))
   rw[ht];have d_s16:decide ((s:Int)<16)=false:=qF (by omega);have e_s16:((s:Int)==16)=true:=(by rw[beq_iff_eq];omega);have d_e4:decide ((e:Int)<4)=true:=q9T (by omega);clear h ht;go_enter func182,ntmps182;go_wp2;go_ret;exact⟨by simp,qL⟩
 · have ht:tms ⟨s,e⟩=0:=by unfold tms;simp only;split<;>first|omega|(split<;>first|omega|(split<;>first|omega|(split<;>omega)))
   rw[ht];have d_s16:decide ((s:Int)<16)=false:=qF (by omega);have e_s16:((s:Int)==16)=true:=(by rw[beq_iff_eq];omega);have d_e4:decide ((e:Int)<4)=false:=qF (by omega);have e_s17:((s:Int)==17)=false:=(by rw[qN];omega);have e_s18:((s:Int)==18)=false:=(by rw[qN];omega);clear h ht;go_enter func182,ntmps182;go_wp2;go_ret;exact⟨by simp,qL⟩
 · have ht:tms ⟨s,e⟩=3+e:=by unfold tms;simp only;split<;>first|omega|(split<;>first|omega|(split<;>first|omega|(split<;>omega)))
   rw[ht];have d_s16:decide ((s:Int)<16)=false:=qF (by omega);have e_s16:((s:Int)==16)=false:=(by rw[qN];omega);have e_s17:((s:Int)==17)=true:=(by rw[beq_iff_eq];omega);have d_e8:decide ((e:Int)<8)=true:=q9T (by omega);clear h ht;go_enter func182,ntmps182;go_wp2;go_ret;exact⟨by simp,qL⟩
 · have ht:tms ⟨s,e⟩=0:=by unfold tms;simp only;split<;>first|omega|(split<;>first|omega|(split<;>first|omega|(split<;>omega)))
   rw[ht];have d_s16:decide ((s:Int)<16)=false:=qF (by omega);have e_s16:((s:Int)==16)=false:=(by rw[qN];omega);have e_s17:((s:Int)==17)=true:=(by rw[beq_iff_eq];omega);have d_e8:decide ((e:Int)<8)=false:=qF (by omega);have e_s18:((s:Int)==18)=false:=(by rw[qN];omega);clear h ht;go_enter func182,ntmps182;go_wp2;go_ret;exact⟨by simp,qL⟩
 · have ht:tms ⟨s,e⟩=11+e:=by unfold tms;simp only;split<;>first|omega|(split<;>first|omega|(split<;>first|omega|(split<;>omega)))
   rw[ht];have d_s16:decide ((s:Int)<16)=false:=qF (by omega);have e_s16:((s:Int)==16)=false:=(by rw[qN];omega);have e_s17:((s:Int)==17)=false:=(by rw[qN];omega);have e_s18:((s:Int)==18)=true:=(by rw[beq_iff_eq];omega);have d_e128:decide ((e:Int)<128)=true:=q9T (by omega);clear h ht;go_enter func182,ntmps182;go_wp2;go_ret;exact⟨by simp,qL⟩
 · have ht:tms ⟨s,e⟩=0:=by unfold tms;simp only;split<;>first|omega|(split<;>first|omega|(split<;>first|omega|(split<;>omega)))
   rw[ht];have d_s16:decide ((s:Int)<16)=false:=qF (by omega);have e_s16:((s:Int)==16)=false:=(by rw[qN];omega);have e_s17:((s:Int)==17)=false:=(by rw[qN];omega);have e_s18:((s:Int)==18)=true:=(by rw[beq_iff_eq];omega);have d_e128:decide ((e:Int)<128)=false:=qF (by omega);clear h ht;go_enter func182,ntmps182;go_wp2;go_ret;exact⟨by simp,qL⟩
 · have ht:tms ⟨s,e⟩=0:=by unfold tms;simp only;split<;>first|omega|(split<;>first|omega|(split<;>first|omega|(split<;>omega)))
   rw[ht];have d_s16:decide ((s:Int)<16)=false:=qF (by omega);have e_s16:((s:Int)==16)=false:=(by rw[qN];omega);have e_s17:((s:Int)==17)=false:=(by rw[qN];omega);have e_s18:((s:Int)==18)=false:=(by rw[qN];omega);clear h ht;go_enter func182,ntmps182;go_wp2;go_ret;exact⟨by simp,qL⟩
end Go.Proofs.YthgilhebnlglkaaGreatDoor.U
namespace Go.Proofs.YthgilhebnlglkaaGreatDoor.V
open Go Go.RowKit M U
def put(n k:Nat):List Nat:=(List.range k).map λi=>n/2^i%2
theorem zdk(n k:Nat):put n (k+1)=put n k++[n/2^k%2]:=by simp[put,List.range_succ]
theorem z0c(n k:Nat):(put n k).length=k:=by simp[put]
def cdb(c size:Nat):List Nat:=(List.range size).map λi=>c/2^(size - 1 - i)%2
theorem z1n(c size:Nat):(cdb c size).length=size:=by simp[cdb]
section
variable {B P:Nat} {w w':World} {v:Value} {bs:List Nat}
end
def hdb(kind:Nat)(last:Bool):List Nat:=put (if last then 1 else 0) 1++put kind 2
theorem z0d(kind:Nat)(last:Bool):(hdb kind last).length=3:=by simp[hdb,z0c]
def upt(l:List Nat)(least:Nat):Nat:=(List.range l.length).foldl (λn i=>if 0<l.getD i 0 then max n (i+1) else n) least
def upk(l:List Nat)(least k:Nat):Nat:=(List.range k).foldl (λn i=>if 0<l.getD i 0 then max n (i+1) else n) least
theorem z4i(l:List Nat)(least k:Nat):upk l least (k+1)=if 0<l.getD k 0 then max (upk l least k) (k+1) else upk l least k:=by
 unfold upk;rw[List.range_succ,List.foldl_append];rfl
theorem z5a(l:List Nat)(least:Nat):∀k,least<=upk l least k/\upk l least k<=max least k
 |0=>⟨qR,by unfold upk;exact Nat.le_max_left _ _⟩
 |k+1=>by
  have:=z5a l least k;rw[z4i]
  split<;>omega
def bty(s:ByteArray)(i:Nat):Nat:=(s.data.toList.getD i 0).toNat
def byb(s:ByteArray)(k:Nat):List Nat:=(List.range k).flatMap λi=>put (bty s i) 8
theorem zeG(s:ByteArray)(k:Nat):byb s (k+1)=byb s k++put (bty s k) 8:=by unfold byb;rw[List.range_succ,List.flatMap_append];simp
theorem z4a(s:ByteArray):∀k,(byb s k).length=k*8
 |0=>rfl
 |k+1=>by rw[zeG,qA,z4a s k,z0c];omega
def pd(n:Nat):Nat:=(8 - n%8)%8
def stb(o:Nat)(s:ByteArray)(last:Bool):List Nat:=hdb 0 last++List.replicate (pd (o+3)) 0++put s.size 16++put (65535 - s.size) 16++byb s s.size
theorem z0g(o:Nat)(s:ByteArray)(last:Bool):(stb o s last).length=3+pd (o+3)+32+s.size*8:=by
 unfold stb;simp only[qA,z0d,List.length_replicate,z0c,z4a]
def stm(o:Nat)(s:ByteArray)(last:Bool):List Nat:=
 if h:s.size<=65535 then stb o s last else stb o (s.extract 0 65535) false++stm (o+(stb o (s.extract 0 65535) false).length) (s.extract 65535 s.size) last
termination_by s.size
decreasing_by
 rw[ByteArray.size_extract];omega
theorem z6b{o:Nat}{s:ByteArray}{last:Bool}(h:s.size<=65535):stm o s last=stb o s last:=by rw[stm,dif_pos h]
theorem z7d{o:Nat}{s:ByteArray}{last:Bool}(h:¬s.size<=65535):stm o s last=stb o (s.extract 0 65535) false++stm (o+(stb o (s.extract 0 65535) false).length) (s.extract 65535 s.size) last:=by rw[stm,dif_neg h]
end Go.Proofs.YthgilhebnlglkaaGreatDoor.V
namespace Go.Proofs.YthgilhebnlglkaaGreatDoor.V
open Go Go.RowKit M U
open Go.ChangeShapes Go.WideShapes Go.Deep
structure Tk where
 l:Int
 n:Int
 d:Int
deriving DecidableEq
instance:Inhabited Tk:=⟨⟨0,0,0⟩⟩
structure Tk.ok(t:Tk):Prop where
 l:0<=t.l/\t.l<=255
 n: -9223372036854775808<=t.n/\t.n<=9223372036854775807
 d: -9223372036854775808<=t.d/\t.d<=9223372036854775807
def isB(t:Tk):Bool:=decide (t.n=0)&&decide (t.d=0)
def isM(t:Tk):Bool:=decide (t.l=0)&& (decide (3<=t.n)&& (decide (t.n<=258)&& (decide (1<=t.d)&&decide (t.d<=32768))))
def may(t:Tk):Bool:=isB t||isM t
theorem z1E{t:Tk}:isB t=true↔t.n=0/\t.d=0:=by unfold isB;simp
theorem z2c{t:Tk}:isM t=true↔t.l=0/\3<=t.n/\t.n<=258/\1<=t.d/\t.d<=32768:=by unfold isM;simp
theorem zj4{t:Tk}(h:isM t=true):isB t=false:=by
 have:=z2c.1 h;cases q:isB t
 · rfl
 · have:=z1E.1 q;omega
structure Tk.lies(w:World)(b o i:Nat)(c:Tk):Prop where
 l:w.cell? ⟨b,o+i*3,none⟩=some (.int .u8 c.l)
 n:w.cell? ⟨b,o+i*3+1,none⟩=some (.int .i64 c.n)
 d:w.cell? ⟨b,o+i*3+2,none⟩=some (.int .i64 c.d)
structure z0j(w:World)(ao:Option Addr)(len:Nat)(cs:List Tk):Prop where
 leng:cs.length=len
 most:len<=maxLen
 good:∀c∈cs,c.ok
 cells:len=0\/∃b o,ao=some ⟨b,o,none⟩/\b<w.heap.size/\∀ (i:Nat) (c:Tk),cs[i]? =some c->c.lies w b o i
theorem z0j.below{w w':World}{ao:Option Addr}{len:Nat}{cs:List Tk}(h:z0j w ao len cs)(hb:Below w.heap.size w w'):z0j w' ao len cs:=by
 refine⟨h.leng,h.most,h.good,?_⟩;rcases h.cells with g|⟨b,o,g1,g2,g3⟩
 · exact .inl g
 · refine .inr ⟨b,o,g1,Nat.lt_of_lt_of_le g2 hb.size,λi c hc=> ?_⟩
   have k:=g3 i c hc;exact⟨(hb.cell g2).trans k.l,(hb.cell g2).trans k.n,(hb.cell g2).trans k.d⟩
theorem cadd_at(b o j:Nat):(⟨b,o,none⟩:Addr).add j=⟨b,o+j,none⟩:=by
 unfold Addr.add
 split
 · rename_i h;subst h;rfl
 · rfl
section
variable {H:Type} {enc:TypeId×Value->H} {w:World} {spare:Nat->Bool} {held:Bool}
end
theorem z0j.at{w:World}{A:Option Addr}{n:Nat}{L:List Tk}(h:z0j w A n L)(hn:0<n):∃b o,A=some ⟨b,o,none⟩/\b<w.heap.size/\∀i (hi:i<n),w.cell? ⟨b,o+i*3,none⟩=some (.int .u8 (L.getD i default).l)/\w.cell? ⟨b,o+i*3+1,none⟩=some (.int .i64 (L.getD i default).n)/\w.cell? ⟨b,o+i*3+2,none⟩=some (.int .i64 (L.getD i default).d):=by
 rcases h.cells with g|⟨b,o,g1,g2,g3⟩
 · omega
 · refine⟨b,o,g1,g2,λi hi=> ?_⟩
   have hl:=h.leng;have e:L[i]? =some (L.getD i default):=(by rw[List.getD,qE (by omega)];rfl);have k:=g3 i _ e;exact⟨k.l,k.n,k.d⟩
structure Sy where
 d:Bool
 n:Nat
 e:Nat
 b:Nat
deriving DecidableEq
instance:Inhabited Sy:=⟨⟨false,0,0,0⟩⟩
def sy1(t:Tk):List Sy:=if t.n=0 then[⟨false,t.l.toNat,0,0⟩] else[⟨false,257+lsy t.n.toNat,lex t.n.toNat,lb (lsy t.n.toNat)⟩,⟨true,dsy t.d.toNat,dex t.d.toNat,db (dsy t.d.toNat)⟩]
def sys(L:List Tk):List Sy:=L.flatMap sy1++[⟨false,256,0,0⟩]
theorem zgm(t:Tk):(sy1 t).length<=2:=by unfold sy1;split<;>simp
theorem zbD:∀L:List Tk,(L.flatMap sy1).length<=2*L.length
 |[]=>by simp
 |t::L=>by rw[List.flatMap_cons,qA,qC];have:=zbD L;have:=zgm t;omega
section
variable {B:Nat} {w w':World} {v:Value} {L:List Sy}
end
end Go.Proofs.YthgilhebnlglkaaGreatDoor.V
namespace Go.Proofs.YthgilhebnlglkaaGreatDoor.V
open Go Go.RowKit M U
def wgh(l1 l2:Nat->Nat):List Sy->Nat
 |[]=>0
 |y::S=>(if y.d=true then l2 y.n else l1 y.n)+y.b+wgh l1 l2 S
def ord:List Nat:=[16,17,18,0,8,7,9,6,10,5,11,4,12,3,13,2,14,1,15]
theorem z5A(w:World)(g:Nat)(h:w.heap[g]? =some (.cells #[.int .u8 16,.int .u8 17,.int .u8 18,.int .u8 0,.int .u8 8,.int .u8 7,.int .u8 9,.int .u8 6,.int .u8 10,.int .u8 5,.int .u8 11,.int .u8 4,.int .u8 12,.int .u8 3,.int .u8 13,.int .u8 2,.int .u8 14,.int .u8 1,.int .u8 15] 5)):IsBys w (some ⟨g,0,none⟩) 19 ord:=by
 have e:(#[.int .u8 16,.int .u8 17,.int .u8 18,.int .u8 0,.int .u8 8,.int .u8 7,.int .u8 9,.int .u8 6,.int .u8 10,.int .u8 5,.int .u8 11,.int .u8 4,.int .u8 12,.int .u8 3,.int .u8 13,.int .u8 2,.int .u8 14,.int .u8 1,.int .u8 15]:Array Value)=(clb ord).toArray:=rfl;rw[e] at h;refine⟨rfl,by decide,by decide,.inr ⟨g,0,rfl,(qW.1 h).1,λi x hx=> ?_⟩⟩;rw[Nat.zero_add];simp only[World.cell?,h];unfold clb;rw[List.getElem?_toArray,List.getElem?_map,hx];rfl
theorem order_any(w:World):Calls prog 150 #[] w λe w'=>e=.returned (.slice (some ⟨w.heap.size,0,none⟩) 19 19)/\IsBys w' (some ⟨w.heap.size,0,none⟩) 19 ord/\Below w.heap.size w w':=by
 go_enter func150,ntmps150;go_wp2;go_ret;exact⟨rfl,z5A _ _ (heap_alloc_new _ _),qL⟩
theorem z42(l n d:Int)(w:World):
 Calls prog 229 #[.agg #[.int .u8 l,.int .i64 n,.int .i64 d]] w λe w'=>e=.returned (.bool (isB ⟨l,n,d⟩))/\Below w.heap.size w w':=by
 by_cases h1:n=0
 · by_cases h2:d=0
   · have hv:isB ⟨l,n,d⟩=true:=z1E.2 ⟨h1,h2⟩
     rw[hv];have e1:(n==0)=true:=(by rw[beq_iff_eq];exact h1);have e2:(d==0)=true:=(by rw[beq_iff_eq];exact h2);clear h1 h2 hv;go_enter func229,ntmps229;go_wp2;go_ret;exact⟨rfl,qL⟩
   · have hv:isB ⟨l,n,d⟩=false:=by cases q:isB ⟨l,n,d⟩ with|false=>rfl|true=>exact absurd (z1E.1 q).2 h2
     rw[hv];have e1:(n==0)=true:=(by rw[beq_iff_eq];exact h1);have e2:(d==0)=false:=(by rw[qN];exact h2);clear h1 h2 hv;go_enter func229,ntmps229;go_wp2;go_ret;exact⟨rfl,qL⟩
 · have hv:isB ⟨l,n,d⟩=false:=by cases q:isB ⟨l,n,d⟩ with|false=>rfl|true=>exact absurd (z1E.1 q).1 h1
   rw[hv];have e1:(n==0)=false:=(by rw[qN];exact h1);clear h1 hv;go_enter func229,ntmps229;go_wp2;go_ret;exact⟨rfl,qL⟩
theorem z39(l n d:Int)(w:World):
 Calls prog 230 #[.agg #[.int .u8 l,.int .i64 n,.int .i64 d]] w λe w'=>e=.returned (.bool (isM ⟨l,n,d⟩))/\Below w.heap.size w w':=by
 have hv:∀b,(decide (l=0)&& (decide (3<=n)&& (decide (n<=258)&& (decide (1<=d)&&decide (d<=32768)))))=b->isM ⟨l,n,d⟩=b:=λb h=>h
 by_cases h1:l=0
 · have e1:(l==0)=true:=by rw[beq_iff_eq];exact h1
   by_cases h2:3<=n
   · have d2:decide (3<=n)=true:=q9T h2
     by_cases h3:n<=258
     · have d3:decide (n<=258)=true:=q9T h3
       by_cases h4:1<=d
       · have d4:decide (1<=d)=true:=q9T h4
         by_cases h5:d<=32768
         · have d5:decide (d<=32768)=true:=q9T h5
           rw[hv true (by rw[d2,d3,d4,d5];simp[h1])];clear h1 h2 h3 h4 h5 hv;go_enter func230,ntmps230;go_wp2;go_ret;exact⟨rfl,qL⟩
         · have d5:decide (d<=32768)=false:=qF h5
           rw[hv false (by rw[d2,d3,d4,d5];simp)];clear h1 h2 h3 h4 h5 hv;go_enter func230,ntmps230;go_wp2;go_ret;exact⟨rfl,qL⟩
       · have d4:decide (1<=d)=false:=qF h4
         rw[hv false (by rw[d2,d3,d4];simp)];clear h1 h2 h3 h4 hv;go_enter func230,ntmps230;go_wp2;go_ret;exact⟨rfl,qL⟩
     · have d3:decide (n<=258)=false:=qF h3
       rw[hv false (by rw[d2,d3];simp)];clear h1 h2 h3 hv;go_enter func230,ntmps230;go_wp2;go_ret;exact⟨rfl,qL⟩
   · have d2:decide (3<=n)=false:=qF h2
     rw[hv false (by rw[d2];simp)];clear h1 h2 hv;go_enter func230,ntmps230;go_wp2;go_ret;exact⟨rfl,qL⟩
 · have e1:(l==0)=false:=by rw[qN];exact h1
   rw[hv false (by simp[h1])];clear h1 hv;go_enter func230,ntmps230;go_wp2;go_ret;exact⟨rfl,qL⟩
theorem z3O(l n d:Int)(w:World):
 Calls prog 194 #[.agg #[.int .u8 l,.int .i64 n,.int .i64 d]] w λe w'=>e=.returned (.bool (may ⟨l,n,d⟩))/\Below w.heap.size w w':=by
 have hB:=z42 l n d;have hM:=z39 l n d;have hb0:Below w.heap.size w (w.alloc (.cells #[.int .u8 l,.int .i64 n,.int .i64 d] 139)):=qL;have n0:(w.alloc (.cells #[.int .u8 l,.int .i64 n,.int .i64 d] 139)).cell? ⟨w.heap.size,0,none⟩=some (.int .u8 l):=(by simp);have n1:(w.alloc (.cells #[.int .u8 l,.int .i64 n,.int .i64 d] 139)).cell? ⟨w.heap.size,1,none⟩=some (.int .i64 n):=(by simp);have n2:(w.alloc (.cells #[.int .u8 l,.int .i64 n,.int .i64 d] 139)).cell? ⟨w.heap.size,2,none⟩=some (.int .i64 d):=(by simp);obtain⟨N0,N1,N2,HB0⟩:=qh4 n0 n1 n2 hb0;clear n0 n1 n2 hb0;by_cases h1:isB ⟨l,n,d⟩=true
 · have hv:may ⟨l,n,d⟩=true:=by unfold may;rw[h1];rfl
   rw[hv];rw[h1] at hB;clear hv h1;have HB:=qH hB;clear hB hM;go_enter func194,ntmps194;go_wp2_with (go_at_call 229;refine(HB.o _).mono ?_;rintro e w1 ⟨rfl,b1⟩;have B1:=qH (HB0.o.trans (b1.mono (by simp)));clear b1);go_ret;exact⟨rfl,B1.o⟩
 · have h1':isB ⟨l,n,d⟩=false:=by simpa using h1
   have hv:may ⟨l,n,d⟩=isM ⟨l,n,d⟩:=(by unfold may;rw[h1'];rfl);rw[hv];rw[h1'] at hB;clear hv h1 h1';generalize hz:isM ⟨l,n,d⟩=z at hM ⊢;obtain⟨HB,HM⟩:=qh2 hB hM;clear hB hM hz;go_enter func194,ntmps194;go_wp2_with (go_at_call 229;refine(HB.o _).mono ?_;rintro e w1 ⟨rfl,b1⟩;have c0:=(b1.cell (p:=⟨w.heap.size,0,none⟩) (by simp)).trans N0.o;have c1:=(b1.cell (p:=⟨w.heap.size,1,none⟩) (by simp)).trans N1.o;have c2:=(b1.cell (p:=⟨w.heap.size,2,none⟩) (by simp)).trans N2.o;have B1:=qH (HB0.o.trans (b1.mono (by simp)));clear b1);go_wp2_with (go_at_call 230;refine(HM.o _).mono ?_;rintro e w2 ⟨rfl,b2⟩;have B2:=qbt B1 b2;clear b2);go_ret;exact⟨rfl,B2.o⟩
end Go.Proofs.YthgilhebnlglkaaGreatDoor.V
namespace Go.Proofs.YthgilhebnlglkaaGreatDoor.V.Tx
def szo(t:Tk):Nat:=if isB t=true then 1 else if isM t=true then t.n.toNat else 0
def szs:List Tk->Nat
 |[]=>0
 |t::l=>szo t+szs l
theorem szs_append:∀ (l m:List Tk),szs (l++m)=szs l+szs m
 |[],m=>by simp[szs]
 |t::l,m=>by simp only[List.cons_append,szs,szs_append l m];omega
theorem zf1(t:Tk):szo t<=258:=by
 unfold szo
 split
 · omega
 · split
   · rename_i h;have:=z2c.1 h;omega
   · omega
theorem szo_byte{t:Tk}(h:isB t=true):szo t=1:=by unfold szo;rw[if_pos h]
theorem szo_match{t:Tk}(h:isM t=true):szo t=t.n.toNat:=by unfold szo;rw[zj4 h,if_neg (by decide),if_pos h]
theorem szs_le:∀l:List Tk,szs l<=258*l.length
 |[]=>by simp[szs]
 |t::l=>by have:=szs_le l;have:=zf1 t;simp only[szs,qC];omega
section
variable {d0:Nat} {b:List UInt8} {t:Tk}
