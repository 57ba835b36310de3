import Derived.Test.YtacelhaidcmbcaaGreatDoorTMSpG
import Derived.Test.YtacelhaidcmbcaaGreatDoorTMT9TkD
import Derived.Deep.RegionHeld3
import Derived.Laws.EntriesVeiled
set_option maxHeartbeats 8000000
set_option maxRecDepth 1000000
namespace Go.Proofs.YtacelhaidcmbcaaGreatDoor.V
open Go.Lib (hid)
open Go Go.RowKit M U
set_option linter.unusedVariables false
set_option linter.unusedSimpArgs false
def z3K(L:List Tk)(q:Nat×Nat):Pie:=⟨q.1,q.2,szt L q.1,szt L q.2⟩
def z91(L:List Tk)(n k:Nat):List Pie:=(List.range k).map fun i=>z3K L (cut n i,cut n (i+1))
theorem zaG(L:List Tk)(n k:Nat):z91 L n (k+1)=z91 L n k++[z3K L (cut n k,cut n (k+1))]:=by unfold z91;rw[List.range_succ,List.map_append];rfl
theorem z0D(L:List Tk)(n k:Nat):(z91 L n k).length=k:=by unfold z91;rw[List.length_map,List.length_range]
theorem zaH(L:List Tk)(n:Nat){k i:Nat}(h:i<k):(z91 L n k)[i]? =some (z3K L (cut n i,cut n (i+1))):=by
 unfold z91;rw[List.getElem?_map,List.getElem?_range h];rfl
def zjh:Value→Nat
 |.slice _ n _=>n
 |_=>0
theorem zbS(A:Option Addr)(n c:Nat)(L:List Tk)(w:World)(h:IsTks w A n L)(hnc:n≤c)(hn:n≤30000):
 Calls Tryz.prog 44 #[.slice A n c] w fun e w'=> ∃v,e=.returned v∧z1e w.heap.size w' v (z91 L n (cnk n+1))∧Below w.heap.size w w':=by
 have hl:=h.leng
 have HSz:=hid (fun(f t:Nat) (hf:f≤t) (ht:t≤n) (X:Option Addr) (hX:(if c=f then A else Option.map (fun x=>x.add (f*3)) A)=X) (w':World) (b:Below w.heap.size w w') (cx:Nat)=>(show Calls Tryz.prog 63 #[.slice X (t - f:Nat) cx] w' (fun e w2=>e=.returned (.int .i64 ((Tx.szs (seg L f t):Nat):Int))∧Below w'.heap.size w' w2) from
  Tx.size_any X (t - f) cx (seg L f t) w' (hX▸(h.below b).sub hnc hf ht) (by omega)))
 have HZs:=hid (fun(f t:Nat) (hf:f≤t) (ht:t≤n)=>(show szt L f+Tx.szs (seg L f t)=szt L t∧szt L t≤9000000 from⟨z4A L hf,by
  have h1:=z0w L ht;rw[z2c (n:=n) (by omega)] at h1;have h2:=Tx.szs_le L;omega⟩))
 clear h;go_enter Tryz.func44,Tryz.ntmps44;go_wp2_with fail
 go_loopw [3] (fun v wr=> ∃k:Nat,k≤cnk n∧z1e (w.heap.size+1) wr v (z91 L n k)∧Hb wr 96 w.heap.size #[.int .i64 (cut n k:Nat),.int .i64 (cut n k:Nat),.int .i64 (szt L (cut n k):Nat),.int .i64 (szt L (cut n k):Nat)]∧Below w.heap.size w wr) (fun v _=>cnk n+1 - zjh v)
 case atStart=>exact⟨0,qZ,z1e.nil _ _,by rw[z1s,z1Q];exact Hb.new _ _ _,qL⟩
 case round=>
  obtain⟨k,hk,hO,hP,hb⟩:=hrel;have HO:=hid hO;have HP:=hid hP;have HB:=hid hb;obtain⟨A1,c1,rfl⟩:=hO.form';have HN:=hid (z0D L n k);rw[HN.out];have hab:cut n k≤cut n (k+1):=z1b n k;have hbn:cut n (k+1)≤n:=by unfold cut;omega
  have h3:cut n (k+1)=min (cut n k+1024) n:=by unfold cut;unfold cnk at hk;omega
  have HS:=hid (zaG L n k);obtain⟨hz1,hz2⟩:=HZs.out _ _ hab hbn;have HC:=hid (show cut n (k+1)=n↔k=cnk n by unfold cut cnk;unfold cnk at hk;omega);obtain⟨a,ha⟩:∃a,cut n k=a:=⟨_,rfl⟩
  obtain⟨b,hbe⟩:∃b,cut n (k+1)=b:=⟨_,rfl⟩
  unfold z3K at HS;rw[ha,hbe] at HS hz1 hab;rw[hbe] at hz2 hbn h3 HC;rw[ha] at h3 HP;simp only at HS;obtain⟨x,hx⟩:∃x,szt L a=x:=⟨_,rfl⟩
  obtain⟨y,hy⟩:∃y,szt L b=y:=⟨_,rfl⟩
  obtain⟨z,hz⟩:∃z,Tx.szs (seg L a b)=z:=⟨_,rfl⟩
  obtain⟨X,hX⟩:∃X,(if c=a then A else Option.map (fun x=>x.add (a*3)) A)=X:=⟨_,rfl⟩
  have HSa:=hid (HSz.out a b hab hbn X hX);rw[hz] at HSa;rw[hx,hy] at HS;rw[hx,hy,hz] at hz1;rw[hy] at hz2;rw[hx] at HP;have m1:min ((a:Int)+1024) (n:Int)=(b:Int):=by omega
  have m2:(if(n:Int)<(a:Int)+1024 then(n:Int) else(a:Int)+1024)=(b:Int):=by split<;>omega
  have hxy:(x:Int)+(z:Int)=(y:Int):=by omega
  have hac:a≤c:=by omega
  have hbc:b≤c:=by omega
  have HXY:=hid (And.intro hx hy);have HAB:=hid (And.intro ha hbe);have p0:=HP.out.cell 0 rfl;have p1:=HP.out.cell 1 rfl;have f1:=HP.out.free 1;have Q1:=hid (HP.out.set 1 (.int .i64 b));clear hz hx hy ha hbe hO hP hb h3
  go_upto_region 4 with fail
  have q1:=Q1.out;have o1:=HO.out.at (w':=wr.setCell ⟨w.heap.size,1,none⟩ (.int .i64 b)) (fun g hg=>Below.heap_setCell _ _ _ _ (by have:=(HO.out.lt g hg).1;show g≠w.heap.size;omega));have b1:=HB.out.setCell (p:=⟨w.heap.size,1,none⟩) qR (.int .i64 b);generalize wr.setCell ⟨w.heap.size,1,none⟩ (.int .i64 b)=w1 at q1 o1 b1 ⊢;clear p0 p1 f1 Q1;have q1:Hb w1 96 w.heap.size #[.int .i64 a,.int .i64 b,.int .i64 x,.int .i64 x]:=q1;have Q1:=hid q1;have O1:=hid o1;have B1:=hid b1;have p0:=q1.cell 0 rfl;have p1:=q1.cell 1 rfl;have p2:=q1.cell 2 rfl;have hlt:=q1.lt;clear q1 o1 b1;have hw1:IntKind.i64.wrap (y:Int)=(y:Int):=by rw[IntKind.wrap_i64];omega
  have hc3:(fun w':World=>w'.cell? ⟨w.heap.size,0,none⟩=some (.int .i64 a)∧w'.cell? ⟨w.heap.size,1,none⟩=some (.int .i64 b)∧w'.cell? ⟨w.heap.size,2,none⟩=some (.int .i64 x)) w1:=⟨p0,p1,p2⟩
  go_region_held3 (fun w':World=>w'.cell? ⟨w.heap.size,0,none⟩=some (.int .i64 a)∧w'.cell? ⟨w.heap.size,1,none⟩=some (.int .i64 b)∧w'.cell? ⟨w.heap.size,2,none⟩=some (.int .i64 x)) (first|exact hc3|exact l3|exact l4) (first|(go_at_call 63;(with_reducible refine(HSa.out _ (by first|exact(Below.refl _ w1).drew|exact B1.out|exact B1.out.drew) _).mono ?_);rintro e w2 ⟨rfl,b2'⟩;have b2:Below w1.heap.size w1 w2:=(by first|exact b2'|exact(Below.refl _ w1).drew.trans b2');clear b2';have k2:=Q1.out.below b2 hlt;have f3:=k2.free 3;have p3:=k2.cell 3 rfl;have K2:=hid k2;have k4:=k2.set 3 (.int .i64 y);have l4:=(And.intro (k4.cell 0 rfl) (And.intro (k4.cell 1 rfl) (k4.cell 2 rfl)));have K4:=hid k4;clear k4 k2;have B2:=hid (B1.out.trans (b2.mono B1.out.size));have O2:=hid (O1.out.below b2);have l3:w2.cell? ⟨w.heap.size,0,none⟩=some (.int .i64 a)∧w2.cell? ⟨w.heap.size,1,none⟩=some (.int .i64 b)∧w2.cell? ⟨w.heap.size,2,none⟩=some (.int .i64 x):=⟨(b2.cell (p:=⟨w.heap.size,0,none⟩) hlt).trans p0,(b2.cell (p:=⟨w.heap.size,1,none⟩) hlt).trans p1,(b2.cell (p:=⟨w.heap.size,2,none⟩) hlt).trans p2⟩))
  have k3:=K4.out;have o3:=O2.out.at (w':=w2.setCell ⟨w.heap.size,3,none⟩ (.int .i64 y)) (fun g hg=>Below.heap_setCell _ _ _ _ (by have:=(O2.out.lt g hg).1;show g≠w.heap.size;omega));have b3:=B2.out.setCell (p:=⟨w.heap.size,3,none⟩) qR (.int .i64 y)
  rename_i hHeld
  clear l3 l4 K4 hHeld hc3 p0 p1 p2 p3 f3 b2 K2;generalize w2.setCell ⟨w.heap.size,3,none⟩ (.int .i64 y)=w3 at k3 o3 b3 ⊢;have k3:Hb w3 96 w.heap.size #[.int .i64 a,.int .i64 b,.int .i64 x,.int .i64 y]:=k3;rw[HN.out] at o3;have K3:=hid k3;have O3:=hid o3;have B3:=hid b3;obtain⟨p0,p1,p2,p3⟩:=k3.cells4;have hlt3:=k3.lt;clear k3 o3 b3 HSa hw1 hX;by_cases hbe2:b=n
  · have d1:((b:Int)==(n:Int))=true:=by rw[beq_iff_eq];omega
    have d1':decide ((b:Int)=(n:Int))=true:=q9T (by omega);have d1'':decide (b=n)=true:=q9T hbe2;have HE:=hid (HC.out.1 hbe2);clear hbe2 hbn hab m1 m2 hxy hac hbc hz1 hz2;go_wp2_with (at_builtin;refine z1M rfl (.tmp 23) (.tmp 25) rfl (w.heap.size+1) _ (z91 L n k) rfl (O3.out.alloc _) w3.heap.size 1 ⟨a,b,x,y⟩ rfl ⟨by simp,by simp,by simp,by simp⟩ (by rw[HN.out];have:=hk;unfold cnk at this;omega) (by simp;omega) ?_;intro v5 w5 o5 g5 _ b5;have K5:=hid ((K3.out.alloc (.cells #[.int .i64 a,.int .i64 b,.int .i64 x,.int .i64 y] 96)).below b5 (Nat.lt_succ_self _));obtain⟨p0,p1,p2,p3⟩:=K5.out.cells4;have O5:=hid o5;have B5:=hid ((B3.out.alloc B3.out.size _).trans (b5.mono (Nat.le_succ _)));clear o5 b5 g5);go_ret;refine⟨_,rfl,?_,B5.out⟩;rw[←HE.out,HS.out];exact O5.out.low (Nat.le_succ _)
  · have d1:((b:Int)==(n:Int))=false:=by rw[qN];omega
    have d1':decide ((b:Int)=(n:Int))=false:=qF (by omega);have d1'':decide (b=n)=false:=qF hbe2;have HE:=hid (show k+1≤cnk n by have h9:¬k=cnk n:=fun e=>hbe2 (HC.out.2 e);omega);clear hbe2 hbn hab m1 m2 hxy hac hbc hz1 hz2;go_wp2_with (at_builtin;refine z1M rfl (.tmp 23) (.tmp 25) rfl (w.heap.size+1) _ (z91 L n k) rfl (O3.out.alloc _) w3.heap.size 1 ⟨a,b,x,y⟩ rfl ⟨by simp,by simp,by simp,by simp⟩ (by rw[HN.out];have:=hk;unfold cnk at this;omega) (by simp;omega) ?_;intro v5 w5 o5 g5 _ b5;have K5:=hid ((K3.out.alloc (.cells #[.int .i64 a,.int .i64 b,.int .i64 x,.int .i64 y] 96)).below b5 (Nat.lt_succ_self _));obtain⟨p0,p1,p2,p3⟩:=K5.out.cells4;have f0:=K5.out.free 0;have f2:=K5.out.free 2;have O5:=hid o5;have B5:=hid ((B3.out.alloc B3.out.size _).trans (b5.mono (Nat.le_succ _)));clear o5 b5 g5);go_roundw
    case rel=>
     refine⟨k+1,HE.out,?_,?_,(B5.out.setCell (p:=⟨w.heap.size,0,none⟩) qR _).setCell (p:=⟨w.heap.size,2,none⟩) qR _⟩
     · rw[HS.out]
       refine(O5.out.at ?_);intro g hg;have:=(O5.out.lt g hg).1;exact(Below.heap_setCell _ _ _ _ (by show g≠w.heap.size;omega)).trans (Below.heap_setCell _ _ _ _ (by show g≠w.heap.size;omega))
     · rw[HAB.out.2,HXY.out.2]
       exact(K5.out.set 0 _).set 2 _
    case measure=>
     obtain⟨A6,c6,e6⟩:=O5.out.form';have:=HE.out;rw[e6];simp only[zjh,qA,HN.out,qC,List.length_nil];omega
end Go.Proofs.YtacelhaidcmbcaaGreatDoor.V
