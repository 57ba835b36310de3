/- Texts of one place, one behind the other: SaA, SaB. -/
import Derived.Test.YtacelhaidcmbcaaGreatDoorTMRns
import Derived.Test.YtacelhaidcmbcaaGreatDoorRows
import Derived.OpenShut
import Derived.LaidMore
import Derived.Deep.DeepHandedRow
import Derived.BigQuiet
import Derived.LoopNIn
import Derived.Lib.Hide
set_option maxHeartbeats 8000000
set_option maxRecDepth 1000000
set_option linter.unusedVariables false
set_option linter.unusedSimpArgs false
namespace Go.Proofs.YtacelhaidcmbcaaGreatDoor.U
open Go Go.RowKit M
def sl(i:Nat):Nat:=if i<16 then 1 else if i<18 then 3 else 11
def sm(i:Nat):Nat:=if i<16 then 0 else if i<17 then 2 else if i<18 then 3 else 7
theorem ziQ(i:Nat):1≤sl i∧sl i≤11:=by
 unfold sl
 split
 · omega
 · split<;>omega
theorem zhx(i:Nat):sm i≤7:=by
 unfold sm
 split
 · omega
 · split
   · omega
   · split<;>omega
structure Tab(w:World):Prop where
 at0:∀i,i<19→w.cell? ⟨1,i*2,none⟩=some (.int .i64 (sl i:Nat))
 at1:∀i,i<19→w.cell? ⟨1,i*2+1,none⟩=some (.int .i64 (sm i:Nat))
theorem Tab.lt{w:World}(h:Tab w): 1 <w.heap.size:=qB (h.at0 0 (by omega))
theorem Tab.below{w w':World}{n:Nat}(h:Tab w)(hb:Below n w w')(hn:w.heap.size≤n):Tab w':=
 ⟨fun i hi=>(hb.cell (p:=⟨1,i*2,none⟩) (Nat.lt_of_lt_of_le h.lt hn)).trans (h.at0 i hi),fun i hi=>(hb.cell (p:=⟨1,i*2+1,none⟩) (Nat.lt_of_lt_of_le h.lt hn)).trans (h.at1 i hi)⟩
theorem zj8: Tryz.prog.globalNamed "platen/runs.says" =some 1 :=by kernel_rfl
theorem ziM:(Tryz.prog.globals[1]?).map (·.type)=some 249 :=by kernel_rfl
theorem z6e: Tryz.prog.cellsOf 248 =2:=by kernel_rfl
theorem cellsInt: Tryz.prog.cellsOf 3 =1:=by kernel_rfl
theorem zaR{H:Type}{enc:TypeId×Value→H}{w:World}{base:Nat}{spare:Nat→Bool}{held:Bool}{m:Nat}{cs:List Value}{x:DataW H×List MemPlace}(h:DataW.trod enc Tryz.prog w base spare held m 248 cs=some x){a b:Int}(hx:x.1=.agg [.lit (.int .i64 a),.lit (.int .i64 b)]):
 cs=[.int .i64 a,.int .i64 b]:=by
 obtain⟨xs,k,_,rfl,hl,hxl,hf⟩:=DataW.trod_array Tryz.underlying248 h;rw[z6e] at hl
 match cs,hl with
 |[v0,v1],_=>
  match xs,hxl with
  |[y0,y1],_=>
   have e0:=hf 0 (by omega);have e1:=hf 1 (by omega);rw[cellsInt] at e0 e1;simp only[Nat.zero_mul,Nat.one_mul,List.drop_zero,List.drop_succ_cons,List.take_succ_cons,List.take_zero,List.getElem?_cons_zero,List.getElem?_cons_succ] at e0 e1;obtain⟨n0,h0,q0,_⟩:=DataW.trod_int Tryz.underlying3 e0;obtain⟨n1,h1,q1,_⟩:=DataW.trod_int Tryz.underlying3 e1;simp only[List.cons.injEq,and_true] at h0 h1;simp only[List.map_cons,List.map_nil,DataW.agg.injEq,List.cons.injEq,and_true] at hx;subst q0 q1;simp only[DataW.lit.injEq,Lit.int.injEq,true_and] at hx;obtain⟨rfl,rfl⟩:=hx;rw[h0,h1]
theorem tab_of_laid{W:World}{laid:List (String×DataW Unit)}(hl:laid=[("platen/runs.says",Rows.laid_platen_runs_says)])(h:laidMet Tryz.prog laid W):Tab W:=by
 subst hl;obtain⟨ps,⟨g0,t0,cs0,f0,p0,q0,hg0,ht0,hv0,hd0,_,_⟩,_⟩:=h;obtain rfl:=Option.some.inj (zj8.symm.trans hg0);obtain rfl:=Option.some.inj (ziM.symm.trans ht0);obtain⟨xs,m,_,hx,hlen,hn,hel⟩:=DataW.trod_array Tryz.underlying249 hd0;simp only[Prod.mk.injEq] at hx;have hx1:=hx.1
 have hxs:xs.map (·.1)=(List.range 19).map (fun i=>(DataW.agg [.lit (.int .i64 (sl i:Nat)),.lit (.int .i64 (sm i:Nat))]:DataW Unit)):=by
  unfold Rows.laid_platen_runs_says at hx1;injection hx1 with hx1
  rw[←hx1];rfl
 have hcell:=fun j=>World.var?_cell hg0 hv0 j
 have each:∀i,i<19→(cs0.toList.drop (i*2)).take 2=[.int .i64 (sl i:Nat),.int .i64 (sm i:Nat)]:=fun i hi=>by
  have h1:=hel i hi;rw[z6e] at h1;have hy:xs[i]? =some xs[i]:=qE (by omega);rw[hy] at h1;refine zaR h1 ?_
  have h2:(xs.map (·.1))[i]? =some (xs[i]).1:=by rw[List.getElem?_map,hy];rfl
  rw[hxs,List.getElem?_map,List.getElem?_range hi] at h2;injection h2 with h2
  exact h2.symm
 have cell:∀i k,i<19→k<2→cs0[i*2+k]? =[Value.int .i64 (sl i:Nat),.int .i64 (sm i:Nat)][k]? :=fun i k hi hk=>by
  rw[←each i hi,List.getElem?_take,if_pos hk,List.getElem?_drop,Array.getElem?_toList]
 exact⟨fun i hi=>by have:=hcell (i*2);rw[show i*2=i*2+0 from rfl,cell i 0 hi (by omega)] at this;exact this,fun i hi=>by have:=hcell (i*2+1);rw[cell i 1 hi (by omega)] at this;exact this⟩
theorem zhI{s:Nat}(h:s<19):rbs s=((sm s:Nat):Int):=by
 by_cases h1:s<16
 · unfold rbs sm;rw[if_pos h1,if_pos h1];rfl
 · have h2:s=16∨s=17∨s=18:=by omega
   rcases h2 with rfl|rfl|rfl<;>rfl
theorem zhJ{s:Nat}(h:¬s<19):rbs s= -1:=by
 unfold rbs;rw[if_neg (by omega),if_neg (by omega),if_neg (by omega),if_neg (by omega)]
theorem z5m{w w':World}{B:Nat}(h:Below B w w')(n:Nat):Below B w (w'.drewN n):=⟨h.os,h.tape,h.output,h.size,h.block⟩
theorem bits_any(s:Nat)(w:World)(H:Tab w)(hs:s≤255):Calls Tryz.prog 134 #[.int .u8 s] w fun x w'=>x=.returned (.tuple #[.int .i64 (max (rbs s) 0),.bool (decide (0≤rbs s))])∧w=w':=by
 by_cases h:s<19
 · have c1:=H.at1 s h
   have hm:=zhx s;have hr:=zhI h;rw[hr,show max ((sm s:Nat):Int) 0=((sm s:Nat):Int) by omega,show decide ((0:Int)≤((sm s:Nat):Int))=true from q9T (by omega)];obtain⟨b,hb⟩:∃b,sm s=b:=⟨_,rfl⟩
   rw[hb] at c1 ⊢;have d1:decide ((19:Int)≤(s:Int))=false:=qF (by omega);have d1':decide (19≤s)=false:=qF (by omega);clear hm hr hb H;go_enter Tryz.func134,Tryz.ntmps134;go_wp2_with fail;exact bodyPost_ret (v:=.tuple #[.int .i64 b,.bool true]) (by simp[results,Tryz.results134,go_sem]) rfl ⟨rfl,rfl⟩
 · rw[zhJ h]
   have d1:decide ((19:Int)≤(s:Int))=true:=q9T (by omega);have d1':decide (19≤s)=true:=q9T (by omega);clear h H;go_enter Tryz.func134,Tryz.ntmps134;go_wp2_with fail;exact bodyPost_ret (v:=.tuple #[.int .i64 0,.bool false]) (by simp[results,Tryz.results134,go_sem]) rfl ⟨rfl,rfl⟩
end Go.Proofs.YtacelhaidcmbcaaGreatDoor.U
namespace Go.Proofs.YtacelhaidcmbcaaGreatDoor.U
open Go.Lib (hid)
open Go Go.RowKit M
theorem zdS(x:Nat)(w:World):Calls Tryz.prog 150 #[.int .u8 x] w fun e w'=>e=.returned (.bool (decide (15<x)))∧w=w':=by
 by_cases h:15<x
 · have d1:decide ((15:Int)<(x:Int))=true:=q9T (by omega)
   rw[q9T h];clear h;go_enter Tryz.func150,Tryz.ntmps150;go_wp2_with fail;go_ret;exact⟨rfl,rfl⟩
 · have d1:decide ((15:Int)<(x:Int))=false:=qF (by omega)
   rw[qF h];clear h;go_enter Tryz.func150,Tryz.ntmps150;go_wp2_with fail;go_ret;exact⟨rfl,rfl⟩
def zct(W:World)(l:List Nat)(n:Nat)(e:Ending)(w':World):Prop:=∃i:Int,e=.returned (.int .i64 i)∧(0≤i↔∃j,j<n∧15<l.getD j 0)∧Below W.heap.size W w'
theorem zbv(A:Option Addr)(n c:Nat)(l:List Nat)(w:World)(H:IsBys w A n l)(hn:n≤2000):Calls Tryz.prog 169 #[.slice A n c,.func (.func 150) #[] #[]] w (zct w l n):=by
 have HH:=hid H;have HNo:=hid zdS;clear H;unfold zct;go_enter Tryz.func169,Tryz.ntmps169;go_wp2_with fail
 go_loopw [8] (fun x wr=> ∃k:Nat,k≤n∧x=.int .i64 k∧(∀j,j<k→¬15<l.getD j 0)∧Below w.heap.size w wr) (fun x _=>n - (intOf x).toNat)
 case atStart=>exact⟨0,qZ,rfl,fun j hj=>absurd hj (by omega),Below.refl _ _⟩
 case round=>
  obtain⟨k,hk,rfl,hA,hb⟩:=hrel;have HA:=hid hA;have HB:=hid hb;by_cases hlt:k<n
  · have d1:decide ((k:Int)<(n:Int))=true:=q9T (by omega)
    have d1':decide (k<n)=true:=q9T hlt;obtain⟨b,o,rfl,hbb,hc⟩:=(HH.out.below hb).at (by omega);have c0:=hc k hlt;obtain⟨x,hx⟩:∃x,l.getD k 0=x:=⟨_,rfl⟩
    rw[hx] at c0;have HX:=hid hx;clear hA hb hc hx;by_cases hy:15<x
    · have hd:decide (15<x)=true:=q9T hy
      have HN:=hid (fun w=>HNo.out x w);rw[hd] at HN;have HY:=hid hy;clear hd hy;go_wp2_with (go_at_call 150;(with_reducible refine(HN.out _).mono ?_);rintro e w3 ⟨rfl,rfl⟩);go_ret;exact⟨k,rfl,⟨fun _=>⟨k,hlt,by rw[HX.out];exact HY.out⟩,fun _=>by omega⟩,HB.out⟩
    · have hd:decide (15<x)=false:=qF hy
      have HN:=hid (fun w=>HNo.out x w);rw[hd] at HN;have HY:=hid hy;clear hd hy;go_wp2_with (go_at_call 150;(with_reducible refine(HN.out _).mono ?_);rintro e w3 ⟨rfl,rfl⟩)
      exact⟨⟨k+1,by omega,by go_num,fun j hj=>by
       by_cases q:j<k
       · exact HA.out j q
       · obtain rfl:j=k:=by omega
         rw[HX.out];exact HY.out,HB.out⟩,by simp[intOf];omega⟩
  · obtain rfl:k=n:=by omega
    have d1:decide ((k:Int)<(k:Int))=false:=qF (by omega);have d1':decide (k<k)=false:=qF (by omega);clear hA hb;go_wp2_with fail;go_ret;exact⟨-1,rfl,⟨fun q=>absurd q (by decide),fun⟨j,h1,h2⟩=>absurd h2 (HA.out j h1)⟩,HB.out⟩
def zh5(W:World)(b:Bool)(e:Ending)(w':World):Prop:=e=.returned (.bool b)∧Below W.heap.size W w'
theorem z6a(A:Option Addr)(n c:Nat)(l:List Nat)(w:World)(b:Bool)(hb:b=true↔∃j,j<n∧15<l.getD j 0)(H:IsBys w A n l)(hn:n≤2000):Calls Tryz.prog 149 #[.slice A n c,.func (.func 150) #[] #[]] w (zh5 w b):=by
 have HI:=hid (zbv A n c l w H hn);unfold zct at HI;unfold zh5;have HB:=hid hb;clear hb H;go_enter Tryz.func149,Tryz.ntmps149;go_wp2_with (go_at_call 169;(with_reducible refine HI.out.mono ?_);rintro e w3 ⟨i,rfl,hi,b3⟩;have hdi:decide ((0:Int)≤i)=b:=(by rw[Bool.eq_iff_iff,decide_eq_true_eq,hi,HB.out]);have B3:=hid b3;clear hi b3);go_ret;exact⟨rfl,B3.out⟩
theorem ziT(v:Nat):∀ (l:List Nat) (k:Nat),(∀j,j<k→l.getD j 0=v)→k≤l.length→(k=l.length∨l.getD k 0≠v)→ru v l=k
 |[],k,h1,h2,h3=>by simp only[List.length_nil] at h2;unfold ru;omega
 |x::l,0,h1,h2,h3=>by
  rcases h3 with e|e
  · simp at e
  · unfold ru
    rw[if_neg]
    simpa using e
 |x::l,k+1,h1,h2,h3=>by
  have h0:=h1 0 (by omega);simp at h0;unfold ru;rw[if_pos h0,ziT v l k (fun j hj=>by simpa using h1 (j+1) (by omega)) (by simpa using h2) (by simpa using h3)]
theorem alike_any(A:Option Addr)(n c:Nat)(l:List Nat)(v:Nat)(w:World)(H:IsBys w A n (v::l))(hn:n≤2000):Calls Tryz.prog 151 #[.slice A n c] w fun e w'=>e=.returned (.int .i64 (ru v l+1:Nat))∧Below w.heap.size w w':=by
 have hlen:l.length+1=n:=by have:=H.leng;simpa using this
 obtain⟨b,o,rfl,hbb,hc⟩:=H.at (by omega);have c0:w.cell? ⟨b,o,none⟩=some (.int .u8 (v:Nat)):=by have:=hc 0 (by omega);simpa using this
 have HC:=hid hc;have HLen:=hid hlen;have h1n:1≤n:=by omega
 clear H hc hlen;go_enter Tryz.func151,Tryz.ntmps151;go_wp2_with fail
 go_loopw [3] (fun x wr=> ∃k q:Nat,k+1≤n∧x=.int .i64 (k+1:Nat)∧(∀j,j<k→l.getD j 0=v)∧wr=w.drewN q) (fun x _=>n - (intOf x).toNat)
 case atStart=>exact⟨0,0,by omega,rfl,fun j hj=>absurd hj (by omega),rfl⟩
 case round=>
  obtain⟨k,q,hk,rfl,hA,rfl⟩:=hrel;have HA:=hid hA;clear hA;obtain⟨z,hz⟩:∃z,k+1=z:=⟨_,rfl⟩
  rw[hz] at hk ⊢;have HZ:=hid hz;clear hz;by_cases hlt:z<n
  · have d1:decide ((z:Int)<(n:Int))=true:=q9T (by omega)
    have d1':decide (z<n)=true:=q9T hlt;have c1:=HC.out z hlt;obtain⟨x,hx⟩:∃x,(v::l).getD z 0=x:=⟨_,rfl⟩
    rw[hx] at c1;have HX:=hid (show l.getD k 0=x by rw[←hx,←HZ.out];simp);clear hx;by_cases hy:x=v
    · have hd:((x:Int)==(v:Int))=true:=by rw[beq_iff_eq];omega
      have hd':(x==v)=true:=by rw[beq_iff_eq];exact hy
      have HY:=hid hy;clear hy;go_wp2_with fail
      go_quiet (fail)
      go_wp2_with fail
      exact⟨⟨z,_,by omega,by go_num,fun j hj=>by
       have hz:=HZ.out;by_cases c:j<k
       · exact HA.out j c
       · obtain rfl:j=k:=by omega
         rw[HX.out];exact HY.out,rfl⟩,by simp[intOf];omega⟩
    · have hd:((x:Int)==(v:Int))=false:=by rw[qN];omega
      have hd':(x==v)=false:=by rw[qN];exact hy
      have HY:=hid hy;clear hy;go_wp2_with fail
      go_quiet (fail)
      go_wp2_with fail
      have hr:ru v l+1=z:=by
       rw[ziT v l k HA.out (by have:=HLen.out;have:=HZ.out;omega) (.inr (by rw[HX.out];exact HY.out)),HZ.out]
      rw[hr];go_ret;exact⟨rfl,z5m (z5m (Below.refl _ _) _) _⟩
  · have d1:decide ((z:Int)<(n:Int))=false:=qF (by omega)
    have d1':decide (z<n)=false:=qF (by omega);go_wp2_with fail
    go_quiet (fail)
    go_wp2_with fail
    have hr:ru v l+1=z:=by
     rw[ziT v l k HA.out (by have:=HLen.out;have:=HZ.out;omega) (.inl (by have:=HLen.out;have:=HZ.out;omega)),HZ.out]
    rw[hr];go_ret;exact⟨rfl,z5m (z5m (Below.refl _ _) _) _⟩
def sof(v n:Nat)(ahead:Bool):Nat:=if v=0∧11≤n then 18 else if v=0∧3≤n then 17 else if v≠0∧ahead=true∧3≤n then 16 else v
theorem zfO(v n:Nat)(ahead:Bool)(w:World)(H:Tab w)(hv:v≤15)(hn:n≤2000):Calls Tryz.prog 171 #[.int .u8 v,.int .i64 n,.bool ahead] w fun e w'=>e=.returned (.int .u8 (sof v n ahead:Nat))∧w=w':=by
 have c18:w.cell? ⟨1,36,none⟩=some (.int .i64 11):=H.at0 18 (by omega);have c17:w.cell? ⟨1,34,none⟩=some (.int .i64 3):=H.at0 17 (by omega);have c16:w.cell? ⟨1,32,none⟩=some (.int .i64 3):=H.at0 16 (by omega);clear H;by_cases h0:v=0
 · have z1:((v:Int)==0)=true:=by rw[beq_iff_eq];omega
   have z2:((v:Int) !=0)=false:=by rw[bne_eq_false_iff_eq];omega
   have z1':(v==0)=true:=by rw[beq_iff_eq];omega
   have z2':(v !=0)=false:=by rw[bne_eq_false_iff_eq];omega
   by_cases h11:11≤n
   · have d1:decide ((11:Int)≤(n:Int))=true:=q9T (by omega)
     have d1':decide (11≤n)=true:=q9T (by omega);rw[show sof v n ahead=18 by unfold sof;rw[if_pos ⟨h0,h11⟩]];clear h0 h11;go_enter Tryz.func171,Tryz.ntmps171;go_wp2_with fail;go_ret;exact⟨rfl,rfl⟩
   · have d1:decide ((11:Int)≤(n:Int))=false:=qF (by omega)
     have d1':decide (11≤n)=false:=qF (by omega);by_cases h3:3≤n
     · have d2:decide ((3:Int)≤(n:Int))=true:=q9T (by omega)
       have d2':decide (3≤n)=true:=q9T (by omega);rw[show sof v n ahead=17 by unfold sof;rw[if_neg (fun q=>h11 q.2),if_pos ⟨h0,h3⟩]];clear h0 h11 h3;go_enter Tryz.func171,Tryz.ntmps171;go_wp2_with fail;go_ret;exact⟨rfl,rfl⟩
     · have d2:decide ((3:Int)≤(n:Int))=false:=qF (by omega)
       have d2':decide (3≤n)=false:=qF (by omega);rw[show sof v n ahead=v by unfold sof;rw[if_neg (fun q=>h11 q.2),if_neg (fun q=>h3 q.2),if_neg (fun q=>q.1 h0)]];clear h0 h11 h3;go_enter Tryz.func171,Tryz.ntmps171;go_wp2_with fail;go_ret;exact⟨rfl,rfl⟩
 · have z1:((v:Int)==0)=false:=by rw[qN];omega
   have z2:((v:Int) !=0)=true:=by rw[bne_iff_ne];omega
   have z1':(v==0)=false:=by rw[qN];omega
   have z2':(v !=0)=true:=by rw[bne_iff_ne];omega
   cases ahead with
   |false=>
    rw[show sof v n false=v by unfold sof;rw[if_neg (fun q=>h0 q.1),if_neg (fun q=>h0 q.1),if_neg (fun q=>by cases q.2.1)]];clear h0;go_enter Tryz.func171,Tryz.ntmps171;go_wp2_with fail;go_ret;exact⟨rfl,rfl⟩
   |true=>
    by_cases h3:3≤n
    · have d2:decide ((3:Int)≤(n:Int))=true:=q9T (by omega)
      have d2':decide (3≤n)=true:=q9T (by omega);rw[show sof v n true=16 by unfold sof;rw[if_neg (fun q=>h0 q.1),if_neg (fun q=>h0 q.1),if_pos ⟨h0,rfl,h3⟩]];clear h0 h3;go_enter Tryz.func171,Tryz.ntmps171;go_wp2_with fail;go_ret;exact⟨rfl,rfl⟩
    · have d2:decide ((3:Int)≤(n:Int))=false:=qF (by omega)
      have d2':decide (3≤n)=false:=qF (by omega);rw[show sof v n true=v by unfold sof;rw[if_neg (fun q=>h0 q.1),if_neg (fun q=>h0 q.1),if_neg (fun q=>h3 q.2.2)]];clear h0 h3;go_enter Tryz.func171,Tryz.ntmps171;go_wp2_with fail;go_ret;exact⟨rfl,rfl⟩
def smo(s:Nat):Nat:=sl s+2^sm s - 1
theorem zdB(s:Nat)(w:World)(H:Tab w)(hs:s<19):Calls Tryz.prog 172 #[.int .u8 s] w fun e w'=>e=.returned (.int .i64 (smo s:Nat))∧∃q,w'=w.drewN q:=by
 have c0:=H.at0 s hs;have c1:=H.at1 s hs;have hl:=ziQ s;have hm:=zhx s;unfold smo;clear H;obtain⟨b,hb⟩:∃b,sm s=b:=⟨_,rfl⟩
 obtain⟨l,hl'⟩:∃l,sl s=l:=⟨_,rfl⟩
 rw[hb] at c1 hm ⊢;rw[hl'] at c0 hl ⊢;have h4:b=0∨b=2∨b=3∨b=7:=by rw[←hb];unfold sm;split;omega;split;omega;split<;>omega
 clear hb hl' hm;rcases h4 with rfl|rfl|rfl|rfl
 all_goals
  have hw1:IntKind.i64.wrap (s:Int)=(s:Int):=by rw[IntKind.wrap_i64];omega
  go_enter Tryz.func172,Tryz.ntmps172;go_wp2_with fail
  go_quiet (fail)
  go_wp2_with fail;go_ret;exact⟨by go_num,_,rfl⟩
end Go.Proofs.YtacelhaidcmbcaaGreatDoor.U
