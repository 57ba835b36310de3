/- Texts of one place, one behind the other: DfO, DfP, RdD. -/
import Derived.Test.YtdpabanajgegjaaGreatDoorEMSpS
import Derived.Test.YtdpabanajgegjaaGreatDoorEMDfM
import Derived.Test.YtdpabanajgegjaaGreatDoorEMSpK
import Derived.OwnWalk
import Derived.Recover
import Derived.RecoverIn
import Derived.Defers
import Derived.Laws.Pointers
import Derived.TacticsInMore
import Derived.RegionIn
import Derived.Deep.RegionHeld
import Derived.Test.YtdpabanajgegjaaGreatDoorEMMathT
import Derived.RangeFuncNested
import Derived.RangeFuncBox
import Derived.RangeFuncCalls
import Derived.RangeFuncLeaves
import Derived.Shelf.Abstract
import Derived.OwnWalkIn
import Derived.LoopNIn
import Derived.LoopIn
import Derived.Laws.EntriesVeiled
import Derived.Maps.AppendAt
import Derived.BigRegionIn
import Derived.Test.YtdpabanajgegjaaGreatDoorEBlB
import Derived.Deep.RegionHeld3
set_option linter.unusedVariables false
set_option linter.unusedSimpArgs false
set_option maxRecDepth 1000000
namespace Go.Proofs.YtdpabanajgegjaaGreatDoor.V
open Go Go.RowKit M U
def ztot:List Pv→Nat
 |[]=>0
 |q::r=>q.z+ztot r
theorem ztot_append:∀l r:List Pv,ztot (l++r)=ztot l+ztot r
 |[],r=>by simp[ztot]
 |q::l,r=>by simp only[List.cons_append,ztot,ztot_append l r];omega
def pbk(A:Option Addr)(c:Nat)(L:List Tk)(s:ByteArray):List Pv→Nat→List Bk
 |[],_=> []
 |q::r,o=>⟨q.k,if c=q.f then A else Option.map (fun x=>x.add (q.f*3)) A,q.t - q.f,c - q.f,seg L q.f q.t,s.extract o (o+q.z),r.isEmpty⟩::pbk A c L s r (o+q.z)
theorem pbk_prs{A:Option Addr}{c:Nat}{L:List Tk}{s:ByteArray}:∀ {P:List (Nat×Nat)} {a b:Nat} (O:Nat),Chn a P b→bkb (pbk A c L s (pvs L s P) (szt L a)) O=prs L s P O
 |[],_,_,_,_=>rfl
 |(x,y)::r,a,b,O,h=>by
  obtain⟨h1,h2,h3⟩:=h;simp only at h1 h2 h3;subst h1;have hz:=szt_mono L h2;have e:szt L x+(szt L y - szt L x)=szt L y:=by omega
  show bkb (pbk A c L s (pvo L s (x,y)::pvs L s r) (szt L x)) O=blq L s (x,y) r.isEmpty O++prs L s r (O+(blq L s (x,y) r.isEmpty O).length)
  simp only[pbk,bkb]
  have e2:bkm (pvo L s (x,y)).k (seg L (pvo L s (x,y)).f (pvo L s (x,y)).t) (s.extract (szt L x) (szt L x+(pvo L s (x,y)).z)) (pvs L s r).isEmpty O=blq L s (x,y) r.isEmpty O:=by
   have e3:(pvs L s r).isEmpty=r.isEmpty:=by cases r<;>rfl
   rw[e3];unfold blq;show bkm _ (seg L x y) (s.extract (szt L x) (szt L x+(szt L y - szt L x))) _ _=_
   rw[e];rfl
  rw[e2,show szt L x+(pvo L s (x,y)).z=szt L y from e,pbk_prs _ h3]
def Pok(n:Nat)(s:ByteArray)(l:List Pv):Prop:=∀dn q td,l=dn++q::td→q.f≤q.t∧q.t≤n∧ztot dn+q.z≤s.size∧q.k≤2
theorem pvs_tot{L:List Tk}{s:ByteArray}:∀ {P:List (Nat×Nat)} {a b:Nat},Chn a P b→szt L a+ztot (pvs L s P)=szt L b
 |[],_,_,h=>by cases h;rfl
 |q::r,a,b,h=>by
  obtain⟨h1,h2,h3⟩:=h;have ih:=pvs_tot (L:=L) (s:=s) h3;have hz:=szt_mono L h2;show szt L a+((szt L q.2 - szt L q.1)+ztot (pvs L s r))=szt L b
  rw[h1];omega
theorem pok_pvs{L:List Tk}{s:ByteArray}{P:List (Nat×Nat)}(h:Chn 0 P L.length)(hz:Tx.szs L=s.size):Pok L.length s (pvs L s P):=by
 intro dn q td e;have ht:=pvs_tot (L:=L) (s:=s) h;rw[szt_zero,szt_all (Nat.le_refl _),hz,e,ztot_append] at ht;have hq:q∈pvs L s P:=by rw[e];simp
 obtain⟨p,hp,rfl⟩:=List.mem_map.1 hq;obtain⟨h1,h2⟩:=h.mem hp;have:ztot (pvo L s p::td)=(pvo L s p).z+ztot td:=rfl;exact⟨h1,h2,by omega,kd_kind _ _⟩
def Pcs(w:World)(g:Nat)(l:List Pv):Prop:=g<w.heap.size∧∀i q,l[i]? =some q→w.cell? ⟨g,i*4,none⟩=some (.int .i64 q.f)∧w.cell? ⟨g,i*4+1,none⟩=some (.int .i64 q.t)∧w.cell? ⟨g,i*4+2,none⟩=some (.int .i64 q.z)∧w.cell? ⟨g,i*4+3,none⟩=some (.int .u8 q.k)
theorem Pcs.below{w w':World}{g:Nat}{l:List Pv}(h:Pcs w g l)(hb:Below w.heap.size w w'):Pcs w' g l:=
 ⟨Nat.lt_of_lt_of_le h.1 hb.size,fun i q hq=>by
  obtain⟨a,b,c,d⟩:=h.2 i q hq;exact⟨(hb.cell (p:=⟨g,i*4,none⟩) h.1).trans a,(hb.cell (p:=⟨g,i*4+1,none⟩) h.1).trans b,(hb.cell (p:=⟨g,i*4+2,none⟩) h.1).trans c,(hb.cell (p:=⟨g,i*4+3,none⟩) h.1).trans d⟩⟩
theorem Pcs.of_owp{w:World}{B:Nat}{v:Value}{l:List Pv}(h:Owp B w v l)(h0:0<l.length):∃g c,v=.slice (some ⟨g,0,none⟩) l.length c∧Pcs w g l:=by
 obtain⟨g,c,rfl,_⟩:=h.form h0;exact⟨g,c,rfl,(h.lt g rfl).2,fun i q hq=>h.cell rfl hq⟩
noncomputable def dtl(d t:ByteArray)(k:Nat):List Tk:=if k=0 then[] else dtk d t k
noncomputable def dpl(d t:ByteArray)(k:Nat):List Pv:=if k=0 then[⟨0,0,t.size,0⟩] else pvs (dtk d t k) t (pts (dtk d t k) t)
theorem dtk_may{d t:ByteArray}{k:Nat}(h0:k≠0):∀x∈dtk d t k,may x=true:=fun x hx=>by
 unfold dtk at hx;rw[if_neg h0] at hx;exact(Px.G_may _ _ _ _ (fun h=>absurd rfl h) x hx).1
theorem dpl_chn(d t:ByteArray)(k:Nat):Chn 0 (pts (dtk d t k) t) (dtk d t k).length:=pts_chn _ _
theorem dpl_ok(d t:ByteArray)(k:Nat):Pok (dtl d t k).length t (dpl d t k):=by
 unfold dtl dpl;by_cases h0:k=0
 · rw[if_pos h0,if_pos h0]
   intro dn q td e;cases dn with
   |nil=>simp at e;obtain⟨rfl,rfl⟩:=e;exact⟨Nat.le_refl 0,Nat.le_refl 0,by show 0+t.size≤t.size;omega,Nat.zero_le 2⟩
   |cons x dn=>simp at e
 · rw[if_neg h0,if_neg h0]
   exact pok_pvs (dpl_chn d t k) (dtk_size d t k)
theorem dpl_len(d t:ByteArray)(k:Nat)(ht:t.size≤100000):0<(dpl d t k).length∧(dpl d t k).length≤1000:=by
 unfold dpl;by_cases h0:k=0
 · rw[if_pos h0];exact⟨by simp,by simp⟩
 · rw[if_neg h0]
   have h1:=pts_length (dtk d t k) t;have h2:=dtk_len d t k;unfold cnk at h1;unfold pvs;rw[List.length_map];refine⟨?_,by omega⟩;unfold pts prt;simp
theorem pbk_dbs(A:Option Addr)(c:Nat)(d t:ByteArray)(k:Nat):bkb (pbk A c (dtl d t k) t (dpl d t k) 0) 0=dbs d t k:=by
 unfold dtl dpl dbs sbt;by_cases h0:k=0
 · rw[if_pos h0,if_pos h0,if_pos h0]
   have e:t.extract 0 (0+t.size)=t:=by rw[Nat.zero_add];exact ByteArray.extract_zero_size
   simp only[pbk,bkb,List.append_nil,e];rfl
 · rw[if_neg h0,if_neg h0,if_neg h0]
   exact pbk_prs 0 (dpl_chn d t k)
end Go.Proofs.YtdpabanajgegjaaGreatDoor.V
namespace Go.Proofs.YtdpabanajgegjaaGreatDoor.V
open Go.Lib (hid)
open Go Go.RowKit M U
theorem pbk_bit{A:Option Addr}{c:Nat}{L:List Tk}{s:ByteArray}(hs:s.size≤65535):∀ (l:List Pv) (o O:Nat),∀x∈bkb (pbk A c L s l o) O,x≤1
 |[],_,_,x,h=>absurd h (by simp[pbk,bkb])
 |q::r,o,O,x,h=>by
  simp only[pbk,bkb,List.mem_append] at h;rcases h with h|h
  · rw[bkm_blk (by rw[ByteArray.size_extract];omega)] at h
    exact blk_bit _ _ _ _ _ x h
  · exact pbk_bit hs r _ _ x h
theorem dbs_bit(d t:ByteArray)(k:Nat)(ht:t.size≤65535):∀x∈dbs d t k,x≤1:=by
 rw[←pbk_dbs none 0 d t k];exact pbk_bit ht _ _ _
theorem text_dby(d t:ByteArray)(k:Nat):(⟨((List.range (((dbs d t k).length+7) /8)).map fun i=>UInt8.ofNat (byn (nb (dbs d t k)) i)).toArray⟩:ByteArray)=dby d t k:=by
 rw[text_eq];rfl
theorem bw_new(w1:World):Bw w1.heap.size (w1.alloc (.cells #[.slice none 0 0] 41)) w1.heap.size (.slice none 0 0) []:=
 ⟨heap_alloc_new _ _,World.ownsRow_nil _ _ _ _,Nat.le_refl _⟩
def DR(W:World)(d t:ByteArray)(k:Nat)(most:Int)(e:Ending)(w':World):Prop:=
 Below W.heap.size W w'∧((((dbs d t k).length+7) /8:Nat)≤most→e=.returned (.tuple #[.string (dby d t k),.int .i64 0]))∧(¬(((dbs d t k).length+7) /8:Nat)≤most→e=.returned (.tuple #[.string ⟨#[]⟩,.int .i64 4]))
set_option maxHeartbeats 1000000 in
theorem rdeflate_zero(d t:ByteArray)(most:Int)(w:World)(ht:t.size≤30000):Calls Tryz.prog 9 #[.string d,.string t,.int .i64 0,.int .i64 most] w (DR w d t 0 most):=by
 have HT:=hid (Px.Q.rtokens_zero d t w (by omega));have hsh:=dby_short d t 0 (by omega);rw[dby_size] at hsh;have hbn:bnd t.size≤30000+6*31+5:=by unfold bnd;split<;>omega
 have e0:dbs d t 0=bkm 0 [] t true 0:=rfl
 have HW:=hid (fun(B P:Nat) (w2:World) (h:Bw B w2 P (.slice none 0 0) []) (hB:B≤w2.heap.size)=>
  (show Calls Tryz.prog 19 #[.pointer (some ⟨P,0,none⟩),.int .u8 0,.slice none 0 0,.string t,.bool true] w2 fun e w'=>e=.returned (.tuple #[])∧∃v',Bw B w' P v' (dbs d t 0)∧Below B w2 w' from
   (writem_any h 0 (by decide) none 0 0 [] t true (fun _=>by omega) (fun w' _=>⟨rfl,Nat.zero_le _,fun c hc=>absurd hc (by simp),.inl rfl⟩) (by decide) (fun q=>absurd rfl q) (by show 0≤_;omega) hB).mono fun e w' q=>
    ⟨q.1,q.2.elim fun v' g=>⟨v',by rw[e0];exact g.1,g.2.below hB h.hB (fun j hj=>by cases hj)⟩⟩))
 have HX:=hid (fun(B P:Nat) (v:Value) (w2:World) (h:Bw B w2 P v (dbs d t 0)) (hB:B≤w2.heap.size)=>
  (show Calls Tryz.prog 21 #[.pointer (some ⟨P,0,none⟩)] w2 fun e w'=>e=.returned (.string (dby d t 0))∧Below w2.heap.size w2 w' from by
   have g:=text_any h (dbs_bit d t 0 (by omega)) (by omega) hB;rw[text_dby] at g;exact g))
 have hz:=dby_size d t 0;unfold DR;obtain⟨X,hX⟩:∃X,dby d t 0=X:=⟨_,rfl⟩
 rw[hX] at HX hz ⊢;rw[←hz] at hsh ⊢;have hx7:X.size≤40000:=by omega
 clear e0 hX hz hsh hbn ht;by_cases hf:((X.size:Nat):Int)≤most
 all_goals
  have HFf:=hid hf;go_enter Tryz.func9,Tryz.ntmps9
  go_wp2_with (first
   |(go_at_call 18;(with_reducible refine HT.out.mono ?_);rintro e w1 ⟨v,rfl,_,b1⟩;have B1:=hid b1;have HNw:=hid (bw_new w1);clear b1)
   |(go_at_call 19;(with_reducible refine(HW.out w1.heap.size w1.heap.size _ HNw.out (by simp)).mono ?_);rintro e w3 ⟨rfl,v3,h3,b3⟩;have H3:=hid h3;have B3:=hid (((Below.refl w1.heap.size w1).alloc (Nat.le_refl _) _).trans b3);clear h3 b3)
   |(go_at_call 21;(with_reducible refine(HX.out _ _ _ _ H3.out B3.out.size).mono ?_);rintro e w4 ⟨rfl,b4⟩;have B4:=hid (B1.out.trans ((B3.out.trans (b4.mono B3.out.size)).mono B1.out.size));clear b4))
  go_ret2
 · exact⟨B4.out,rfl,fun h=>by exfalso;have:=HFf.out;omega⟩
 · exact⟨B4.out,fun h=>by exfalso;have:=HFf.out;omega,rfl⟩
theorem heap_cells4{w:World}{g:Nat}{T:TypeId}{a b c d:Value}(h:w.heap[g]? =some (.cells #[a,b,c,d] T (0,0))):w.cell? ⟨g,0,none⟩=some a∧w.cell? ⟨g,1,none⟩=some b∧w.cell? ⟨g,2,none⟩=some c∧w.cell? ⟨g,3,none⟩=some d:=by simp[World.cell?,h]
theorem Pcs.at{w w':World}{g:Nat}{l:List Pv}(h:Pcs w g l)(hz:w.heap.size≤w'.heap.size)(e:w'.heap[g]? =w.heap[g]?):Pcs w' g l:=
 ⟨Nat.lt_of_lt_of_le h.1 hz,fun i q hq=>by
  have k:∀j,w'.cell? ⟨g,j,none⟩=w.cell? ⟨g,j,none⟩:=fun j=>by unfold World.cell?;simp only[e]
  rw[k,k,k,k];exact h.2 i q hq⟩
set_option maxHeartbeats 4000000 in
theorem rdeflate_some(d t:ByteArray)(k:Nat)(most:Int)(w:World)(hk:1≤k∧k≤9)(hd:d.size≤32768)(ht:t.size≤10000):Calls Tryz.prog 9 #[.string d,.string t,.int .i64 k,.int .i64 most] w (DR w d t k most):=by
 have h0:k≠0:=by omega
 have hlen:=dtk_len d t k
 have HT:=hid (show Calls Tryz.prog 18 #[.string d,.string t,.int .i64 k] w fun e w'=> ∃A c,e=.returned (.tuple #[.slice A (dtk d t k).length c,.int .i64 0])∧IsTks w' A (dtk d t k).length (dtk d t k)∧(dtk d t k).length≤c∧Below w.heap.size w w' from by
  have h:=Px.Q.rtokens_any d t k w hk hd (by omega);rw[←Px.cutd_all hd] at h;have e:dtk (Px.cutd d) t k=dtk d t k:=by rw[Px.cutd_all hd]
  have e2:Px.G (Px.cutd d++t) (Px.Q.lv k) (Px.cutd d).size (0,0)=dtk d t k:=by unfold dtk;rw[if_neg h0]
  rw[e2] at h;rw[Px.cutd_all hd] at h;refine h.mono fun e w' q=> ?_
  obtain⟨v,rfl,ho,hb⟩:=q
  obtain⟨A,c,rfl,hI⟩:=IsTks.of_owq ho (fun x hx=>by
   have hx':=hx;unfold dtk at hx';rw[if_neg h0] at hx';obtain⟨_,g1,g2,g3⟩:=Px.G_may _ _ _ _ (fun h=>absurd rfl h) x hx';exact Tk.ok_of g1 ⟨g2.1,by omega⟩ ⟨g3.1,by omega⟩) (by unfold maxLen;omega)
  exact⟨A,c,rfl,hI,Px.owq_cap ho,hb⟩)
 have HP:=hid (fun(A:Option Addr) (c:Nat) (w':World) (hI:IsTks w' A (dtk d t k).length (dtk d t k)) (hc:(dtk d t k).length≤c)=>
  rparts_any A (dtk d t k).length c (dtk d t k) t w' hI hc (by omega) (by omega) (dtk_may h0) (dtk_size d t k))
 have hsh:=dby_short d t k (by omega);rw[dby_size] at hsh;have hbn:bnd t.size≤20000:=by unfold bnd;split<;>omega
 have hBT:(dbs d t k).length≤160000:=by omega
 have HX:=hid (fun(B P:Nat) (v:Value) (w2:World) (h:Bw B w2 P v (dbs d t k)) (hB:B≤w2.heap.size)=>
  (show Calls Tryz.prog 21 #[.pointer (some ⟨P,0,none⟩)] w2 fun e w'=>e=.returned (.string (dby d t k))∧Below w2.heap.size w2 w' from by
   have g:=text_any h (dbs_bit d t k (by omega)) (by omega) hB;rw[text_dby] at g;exact g))
 have hz:=dby_size d t k;have hpl:=dpl_len d t k (by omega);have hok:=dpl_ok d t k;have HBt:=hid (fun(A:Option Addr) (c:Nat)=>pbk_dbs A c d t k);have e1:dtl d t k=dtk d t k:=by unfold dtl;rw[if_neg h0]
 have e2:dpl d t k=pvs (dtk d t k) t (pts (dtk d t k) t):=by unfold dpl;rw[if_neg h0]
 have HMy:=hid (dtk_may (d:=d) (t:=t) h0);rw[e1] at hok HBt;rw[←e2] at HP;unfold DR;obtain⟨X,hX⟩:∃X,dby d t k=X:=⟨_,rfl⟩
 rw[hX] at HX hz ⊢;rw[←hz] at hsh ⊢;have hx7:X.size≤40000:=by omega
 obtain⟨PL,hPL⟩:∃PL,dpl d t k=PL:=⟨_,rfl⟩
 rw[hPL] at HP hpl hok HBt;obtain⟨L,hL⟩:∃L,dtk d t k=L:=⟨_,rfl⟩
 rw[hL] at HT HP hok HBt HMy hlen;obtain⟨n,hn⟩:∃n,L.length=n:=⟨_,rfl⟩
 rw[hn] at HT HP hok hlen;obtain⟨BT,hB⟩:∃BT,dbs d t k=BT:=⟨_,rfl⟩
 rw[hB] at HX HBt hBT;obtain⟨N,hN⟩:∃N,PL.length=N:=⟨_,rfl⟩
 rw[hN] at hpl;have HN:=hid hN;have HOk:=hid hok;have e3:((k:Int)==0)=false:=by rw[beq_eq_false_iff_ne];omega
 have e4:(k==0)=false:=by rw[beq_eq_false_iff_ne];omega
 have e5:¬k=0:=h0;have hn7:n≤10000:=by omega
 have hN7:N≤1000:=hpl.2;have hN1:0<N:=hpl.1;clear hX hz hsh hbn hPL hL hn hB hN hok e1 e2 hpl hd h0 hlen;by_cases hf:((X.size:Nat):Int)≤most
 all_goals
  have HFf:=hid hf;go_enter Tryz.func9,Tryz.ntmps9
  go_wp2_with (first
   |(go_at_call 18;(with_reducible refine HT.out.mono ?_);rintro e w1 ⟨A,c,rfl,h1,hc1,b1⟩;have H1:=hid (And.intro h1 hc1);have B1:=hid b1;have hnc:=hc1;have HNw:=hid (bw_new w1);have hb2:=(Below.refl w1.heap.size w1).alloc (Nat.le_refl _) (.cells #[.slice none 0 0] 41);have B2:=hid hb2;clear h1 hc1 b1 hb2)
   |(go_at_call 20;(with_reducible refine(HP.out A c _ (H1.out.1.below B2.out) H1.out.2).mono ?_);rintro e w3 ⟨v3,rfl,o3,b3⟩;obtain⟨g,cp,rfl,hp3⟩:=Pcs.of_owp o3 (by rw[HN.out];exact hN1);rw[HN.out];have hg3:=(o3.lt g rfl).1;rw[World.size_alloc] at hg3;have HG:=hid hg3;have HPc:=hid hp3;have HW3:=hid (HNw.out.below b3);have B3:=hid (B2.out.trans (b3.mono B2.out.size));clear o3 b3 hp3 hg3))
  go_loopw [14,15] (fun at' i wr=> ∃ (j:Nat) (dn td:List Pv) (v:Value) (bs:List Nat),PL=dn++td∧dn.length=j∧i=.int .i64 j∧at'=.int .i64 (ztot dn:Nat)∧Bw w1.heap.size wr w1.heap.size v bs∧bs++bkb (pbk A c L t td (ztot dn)) bs.length=BT∧Ap w1.heap.size v.ownBlock wr g∧Pcs wr g PL∧Below w1.heap.size w1 wr) (fun _ i _=>N - (intOf i).toNat)
  case atStart=>exact⟨0,[],PL,_,[],rfl,rfl,rfl,rfl,HW3.out,by rw[List.nil_append];exact HBt.out A c,⟨HPc.out.1,by have:=HG.out;omega,fun q=>by cases q⟩,HPc.out,B3.out⟩
  case round=>
   obtain⟨j,dn,td,v,bs,hp,hj,rfl,rfl,hW,hBs,hAp,hPc,hb⟩:=hrel;have HHp:=hid hp;have HHb:=hid hBs;have HHw:=hid hW;have HAp:=hid hAp;have HPr:=hid hPc;have HB:=hid hb;cases td with
   |nil=>
    have ej:j=N:=by rw[←hj,←HN.out,hp,List.append_nil]
    subst ej;have d1:decide ((j:Int)<(j:Int))=false:=decide_eq_false (by omega);have d1':decide (j<j)=false:=decide_eq_false (by omega);have HX':=hid (HX.out w1.heap.size w1.heap.size v wr (by have h:=HHb.out;simp only[pbk,bkb,List.append_nil] at h;rw[←h];exact hW) hb.size);clear hp hBs hW hAp hPc hb hj;go_wp2_with (go_at_call 21;(with_reducible refine HX'.out.mono ?_);rintro e w4 ⟨rfl,b4⟩;have B4:=hid (B1.out.trans ((HB.out.trans (b4.mono HB.out.size)).mono B1.out.size));clear b4);go_ret2
    first|exact⟨B4.out,rfl,fun h=>by exfalso;have:=HFf.out;omega⟩|exact⟨B4.out,fun h=>by exfalso;have:=HFf.out;omega,rfl⟩
   |cons q td=>
    have hlt:j<N:=by rw[←hj,←HN.out,hp,List.length_append,List.length_cons];omega
    have hq:PL[j]? =some q:=by rw[hp,←hj];simp
    obtain⟨o1,o2,o3,o4⟩:=HOk.out dn q td hp;obtain⟨n0,n1,n2,n3⟩:=hPc.2 j q hq
    have hlast:td.isEmpty=decide (j+1=N):=by
     have e:N=j+1+td.length:=by rw[←HN.out,hp,List.length_append,List.length_cons,hj];omega
     cases td with
     |nil=>exact(decide_eq_true (by simpa using e.symm)).symm
     |cons x td=>exact(decide_eq_false (by rw[e,List.length_cons];omega)).symm
    obtain⟨f,u,z,kk⟩:=q;simp only at o1 o2 o3 o4 n0 n1 n2 n3;have HZt:=hid (show ztot (dn++[⟨f,u,z,kk⟩])=ztot dn+z by rw[ztot_append];rfl);obtain⟨o,ho⟩:∃o,ztot dn=o:=⟨_,rfl⟩
    obtain⟨la,hla⟩:∃la,decide (j+1=N)=la:=⟨_,rfl⟩
    obtain⟨Y,hY⟩:∃Y,(if c=f then A else Option.map (fun x=>x.add (f*3)) A)=Y:=⟨_,rfl⟩
    obtain⟨RA,hRA⟩:∃RA,t.extract o (o+z)=RA:=⟨_,rfl⟩
    obtain⟨MB,hMB⟩:∃MB,bkm kk (seg L f u) RA la bs.length=MB:=⟨_,rfl⟩
    have hnx:(bs++MB)++bkb (pbk A c L t td (o+z)) (bs++MB).length=BT:=by
     have h:=HHb.out;simp only[pbk,bkb] at h;rw[hlast,hla,ho,hRA,hMB] at h;rw[List.append_assoc,List.length_append];exact h
    have HNx:=hid hnx
    have hbl:bs.length≤160000:=by
     have:=congrArg List.length HHb.out;rw[List.length_append] at this;omega
    have hRs:RA.size≤10000:=by rw[←hRA,ByteArray.size_extract];omega
    have HWr:=hid (fun(W1:World) (b:Below wr.heap.size wr W1)=>(show Calls Tryz.prog 19 #[.pointer (some ⟨w1.heap.size,0,none⟩),.int .u8 kk,.slice Y (u - f:Nat) (c - f:Nat),.string RA,.bool la] W1 fun e w'=>e=.returned (.tuple #[])∧∃v',Bw w1.heap.size w' w1.heap.size v' (bs++MB)∧Chg w1.heap.size v.ownBlock W1 v'.ownBlock w' from by
     have g:=writem_any (HHw.out.below b) kk o4 Y (u - f) (c - f) (seg L f u) RA la (fun _=>by omega) (fun w' b'=>by
      rw[←hY];exact(H1.out.1.below ((HB.out.trans (b.mono HB.out.size)).trans b')).sub hnc o1 o2) (by omega) (fun _ x hx=>HMy.out x (seg_mem hx)) (by omega) (Nat.le_trans HB.out.size b.size)
     rw[hMB] at g;exact g))
    rw[ho] at HZt o3 ⊢;have d1:decide ((j:Int)<(N:Int))=true:=decide_eq_true (by omega);have d1':decide (j<N)=true:=decide_eq_true hlt;have ix:(j:Int).toNat<N:=by omega
    have huc:u≤c:=by omega
    have hfc:f≤c:=by omega
    have l1:((j:Int)==(N:Int) - 1)=la:=by
     rw[←hla];by_cases h:j+1=N
     · rw[decide_eq_true h,beq_iff_eq];omega
     · rw[decide_eq_false h,beq_eq_false_iff_ne];omega
    have l2:((j:Int)==IntKind.i64.wrap ((N:Int) - 1))=la:=by rw[IntKind.wrap_i64,←l1];congr 1;omega
    have hoz:(o:Int)+(z:Int)=((o+z:Nat):Int):=by omega
    obtain⟨oz,hoz'⟩:∃oz,o+z=oz:=⟨_,rfl⟩
    have hoo:o≤oz:=by omega
    rw[hoz'] at HNx HZt o3 hRA hoz;have hw1:IntKind.i64.wrap (oz:Int)=(oz:Int):=by rw[IntKind.wrap_i64];omega
    have hot:o≤10000:=by omega
    have hztt:oz≤10000:=by omega
    have HAw:=hid (show ∀W1,Below wr.heap.size wr W1→wr.heap.size<W1.heap.size→Ap w1.heap.size v.ownBlock W1 wr.heap.size∧Ap w1.heap.size v.ownBlock W1 g from fun W1 b hlt=>⟨⟨hlt,by have:=HHw.out.lt;omega,fun q=>by have:=(HHw.out.ow.lt _ q).2;omega⟩,⟨Nat.lt_of_lt_of_le HAp.out.1 b.size,HAp.out.2.1,HAp.out.2.2⟩⟩)
    have HWq:=hid (fun(W1:World) (b:Below wr.heap.size wr W1) (hQ:W1.heap[wr.heap.size]? =some (.cells #[.int .i64 f,.int .i64 u,.int .i64 z,.int .u8 kk] 46 (0,0)))=>(show Calls Tryz.prog 19 #[.pointer (some ⟨w1.heap.size,0,none⟩),.int .u8 kk,.slice Y (u - f:Nat) (c - f:Nat),.string RA,.bool la] W1 fun e w'=>e=.returned (.tuple #[])∧
     (w'.cell? ⟨wr.heap.size,0,none⟩=some (.int .i64 f)∧w'.cell? ⟨wr.heap.size,1,none⟩=some (.int .i64 u)∧w'.cell? ⟨wr.heap.size,2,none⟩=some (.int .i64 z)∧w'.cell? ⟨wr.heap.size,3,none⟩=some (.int .u8 kk))∧∃v5,Bw w1.heap.size w' w1.heap.size v5 (bs++MB)∧Ap w1.heap.size v5.ownBlock w' g∧Pcs w' g PL∧Below w1.heap.size w1 w' from
     (HWr.out W1 b).mono fun e w' q=>⟨q.1,by
      obtain⟨v5,h5,c5⟩:=q.2;obtain⟨hA1,hA2⟩:=HAw.out W1 b (Array.getElem?_eq_some_iff.1 hQ).1;obtain⟨hA3,hA4⟩:=hA1.chg c5;obtain⟨hA5,hA6⟩:=hA2.chg c5;exact⟨heap_cells4 (hA4.trans hQ),v5,h5,hA5,(HPr.out.below b).at c5.size hA6,(HB.out.trans (b.mono HB.out.size)).trans (c5.below (Nat.le_trans HB.out.size b.size) (Nat.le_refl _) (fun q hq=>(HHw.out.ow.lt q hq).1))⟩⟩))
    clear hp hBs hW hAp hPc hb hq hlast ho hla hnx hMB hoz'
    go_upto_region 13 with fail
    have b2:Below wr.heap.size wr (wr.alloc (.cells #[.int .i64 f,.int .i64 u,.int .i64 z,.int .u8 kk] 46)):=(Below.refl _ _).alloc (Nat.le_refl _) _;have hQ:=heap_alloc_new wr (.cells #[.int .i64 f,.int .i64 u,.int .i64 z,.int .u8 kk] 46);have hz1:(wr.alloc (.cells #[.int .i64 f,.int .i64 u,.int .i64 z,.int .u8 kk] 46)).heap.size=wr.heap.size+1:=by simp
    generalize wr.alloc (.cells #[.int .i64 f,.int .i64 u,.int .i64 z,.int .u8 kk] 46)=W1 at b2 hQ hz1 ⊢;obtain⟨q0,q1,q2,q3⟩:=heap_cells4 hQ;have B5:=hid b2;have HQ:=hid (show W1.drew.heap[wr.heap.size]? =some (.cells #[.int .i64 f,.int .i64 u,.int .i64 z,.int .u8 kk] 46 (0,0)) from hQ);have HZ1:=hid hz1;clear b2 hQ hz1 n0 n1 n2 n3
    go_region_held3 (fun w'=>w'.cell? ⟨wr.heap.size,0,none⟩=some (.int .i64 f)∧w'.cell? ⟨wr.heap.size,1,none⟩=some (.int .i64 u)∧w'.cell? ⟨wr.heap.size,2,none⟩=some (.int .i64 z)∧w'.cell? ⟨wr.heap.size,3,none⟩=some (.int .u8 kk)) (first|exact⟨r0,r1,r2,r3⟩|exact⟨q0,q1,q2,q3⟩) (first|(go_at_call 19;(with_reducible refine(HWq.out W1.drew (B5.out.trans (Below.refl _ _).drew) HQ.out).mono ?_);rintro e w5 ⟨rfl,⟨r0,r1,r2,r3⟩,v5,h5⟩;have H5:=hid h5;clear h5))
    obtain⟨h5,hA5,hP5,hB5⟩:=H5.out;have HH5:=hid (And.intro h5 (And.intro hA5 (And.intro hP5 hB5)));clear h5 hA5 hP5 hB5 q0 q1 q2 q3 r0 r1 r3;go_wp2_with fail;go_roundw
    case rel=>exact⟨j+1,dn++[⟨f,u,z,kk⟩],td,v5,bs++MB,by rw[List.append_assoc];exact HHp.out,by rw[List.length_append,hj];rfl,by go_num,by rw[HZt.out],HH5.out.1,by rw[HZt.out];exact HNx.out,HH5.out.2.1,HH5.out.2.2.1,HH5.out.2.2.2⟩
    case measure=>(simp[intOf];try omega)
end Go.Proofs.YtdpabanajgegjaaGreatDoor.V
