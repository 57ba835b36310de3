/- Texts of one place, one behind the other: RsA, RsB, RsC, YsA, YsC. -/
import Derived.Test.YtdpabanajgegjaaGreatDoorEMMathT
import Derived.Test.YtdpabanajgegjaaGreatDoorEMMaR
import Derived.Test.YtdpabanajgegjaaGreatDoorChecked
import Derived.KernelRfl
import Derived.WalkKit
import Derived.Lib.Hide
import Derived.Outline
import Derived.Deep.RegionLaw
import Derived.RegionTactic
import Derived.BigRegion
import Derived.BigQuiet
import Derived.Deep.QuietTactic
import Derived.ChangeAlike
import Derived.Laws.Cells
import Derived.WalkSpells
import Derived.WalkMore
import Derived.IntWalk
set_option linter.unusedVariables false
set_option linter.unusedSimpArgs false
set_option maxRecDepth 1000000
namespace Go.Proofs.YtdpabanajgegjaaGreatDoor
open Go Go.RowKit M
def LLs(w:World)(g:Nat):Prop:=w.heap[g]? =some (.cells #[.int .i64 3,.int .i64 4,.int .i64 5,.int .i64 6,.int .i64 7,.int .i64 8,.int .i64 9,.int .i64 10,.int .i64 11,.int .i64 13,.int .i64 15,.int .i64 17,.int .i64 19,.int .i64 23,.int .i64 27,.int .i64 31,.int .i64 35,.int .i64 43,.int .i64 51,.int .i64 59,.int .i64 67,.int .i64 83,.int .i64 99,.int .i64 115,.int .i64 131,.int .i64 163,.int .i64 195,.int .i64 227,.int .i64 258] 3 (0,0))
def DLs(w:World)(g:Nat):Prop:=w.heap[g]? =some (.cells #[.int .i64 1,.int .i64 2,.int .i64 3,.int .i64 4,.int .i64 5,.int .i64 7,.int .i64 9,.int .i64 13,.int .i64 17,.int .i64 25,.int .i64 33,.int .i64 49,.int .i64 65,.int .i64 97,.int .i64 129,.int .i64 193,.int .i64 257,.int .i64 385,.int .i64 513,.int .i64 769,.int .i64 1025,.int .i64 1537,.int .i64 2049,.int .i64 3073,.int .i64 4097,.int .i64 6145,.int .i64 8193,.int .i64 12289,.int .i64 16385,.int .i64 24577] 3 (0,0))
theorem LLs.cell{w:World}{g:Nat}(h:LLs w g){i:Nat}(hi:i≤28):w.cell? ⟨g,i,none⟩=some (.int .i64 (ll i:Nat)):=by
 have e:(#[.int .i64 3,.int .i64 4,.int .i64 5,.int .i64 6,.int .i64 7,.int .i64 8,.int .i64 9,.int .i64 10,.int .i64 11,.int .i64 13,.int .i64 15,.int .i64 17,.int .i64 19,.int .i64 23,.int .i64 27,.int .i64 31,.int .i64 35,.int .i64 43,.int .i64 51,.int .i64 59,.int .i64 67,.int .i64 83,.int .i64 99,.int .i64 115,.int .i64 131,.int .i64 163,.int .i64 195,.int .i64 227,.int .i64 258]:Array Value)=(lls.map fun x:Nat=>Value.int .i64 (x:Int)).toArray:=rfl;have hl:lls.length=29:=rfl;unfold LLs at h;rw[e] at h;simp only[World.cell?,h];rw[List.getElem?_toArray,List.getElem?_map,List.getElem?_eq_getElem (by rw[hl];omega)];unfold ll;rw[List.getD,List.getElem?_eq_getElem (by rw[hl];omega)];rfl
theorem DLs.cell{w:World}{g:Nat}(h:DLs w g){i:Nat}(hi:i≤29):w.cell? ⟨g,i,none⟩=some (.int .i64 (dl i:Nat)):=by
 have e:(#[.int .i64 1,.int .i64 2,.int .i64 3,.int .i64 4,.int .i64 5,.int .i64 7,.int .i64 9,.int .i64 13,.int .i64 17,.int .i64 25,.int .i64 33,.int .i64 49,.int .i64 65,.int .i64 97,.int .i64 129,.int .i64 193,.int .i64 257,.int .i64 385,.int .i64 513,.int .i64 769,.int .i64 1025,.int .i64 1537,.int .i64 2049,.int .i64 3073,.int .i64 4097,.int .i64 6145,.int .i64 8193,.int .i64 12289,.int .i64 16385,.int .i64 24577]:Array Value)=(dls.map fun x:Nat=>Value.int .i64 (x:Int)).toArray:=rfl;have hl:dls.length=30:=rfl;unfold DLs at h;rw[e] at h;simp only[World.cell?,h];rw[List.getElem?_toArray,List.getElem?_map,List.getElem?_eq_getElem (by rw[hl];omega)];unfold dl;rw[List.getD,List.getElem?_eq_getElem (by rw[hl];omega)];rfl
set_option maxRecDepth 1000000 in
theorem rlengths_any(w:World):Calls Tryz.prog 142 #[] w fun e w'=>e=.returned (.slice (some ⟨w.heap.size,0,none⟩) 29 29)∧LLs w' w.heap.size∧Below w.heap.size w w':=by
 go_enter Tryz.func142,Tryz.ntmps142;go_wp2;go_ret;exact⟨rfl,heap_alloc_new _ _,(Below.refl _ _).alloc (Nat.le_refl _) _⟩
set_option maxRecDepth 1000000 in
theorem rdists_any(w:World):Calls Tryz.prog 143 #[] w fun e w'=>e=.returned (.slice (some ⟨w.heap.size,0,none⟩) 30 30)∧DLs w' w.heap.size∧Below w.heap.size w w':=by
 go_enter Tryz.func143,Tryz.ntmps143;go_wp2;go_ret;exact⟨rfl,heap_alloc_new _ _,(Below.refl _ _).alloc (Nat.le_refl _) _⟩
theorem rlb_yes(i:Nat)(w:World)(hi:i≤28):Calls Tryz.prog 100 #[.int .i64 (257+i:Int)] w fun e w'=>e=.returned (.int .i64 (lb i:Nat))∧w=w':=by
 obtain⟨x,hx⟩:∃x:Int,257+(i:Int)=x:=⟨_,rfl⟩
 rw[hx];have d1:decide (x<257)=false:=decide_eq_false (by omega);have d2:decide (285<x)=false:=decide_eq_false (by omega);by_cases h:i<8
 · have hl:lb i=0:=by unfold lb;rw[if_pos (.inl h)]
   rw[hl];have d3:decide (x<265)=true:=decide_eq_true (by omega);clear hx hi h;go_enter Tryz.func100,Tryz.ntmps100;go_wp2;go_ret;exact⟨rfl,rfl⟩
 have d3:decide (x<265)=false:=decide_eq_false (by omega);by_cases h28:i=28
 · have hl:lb i=0:=by unfold lb;rw[if_pos (.inr h28)]
   rw[hl];have d4:(x==285)=true:=by rw[beq_iff_eq];omega
   clear hx hi h h28;go_enter Tryz.func100,Tryz.ntmps100;go_wp2;go_ret;exact⟨rfl,rfl⟩
 have d4:(x==285)=false:=by rw[beq_eq_false_iff_ne];omega
 have hl:lb i=(i - 4) /4:=by unfold lb;rw[if_neg (by omega)]
 obtain⟨b,hb⟩:∃b,lb i=b:=⟨_,rfl⟩
 rw[hb] at hl ⊢;have e1:(x - 261) /4=(b:Int):=by omega
 have e2:(x - 261).tdiv 4=(b:Int):=by rw[Int.tdiv_eq_ediv_of_nonneg (by omega)];exact e1
 have hx1:0≤x:=by omega
 have hx2:x≤285:=by omega
 clear hx hi h h28 hl hb;go_enter Tryz.func100,Tryz.ntmps100;go_wp2;go_ret;exact⟨rfl,rfl⟩
theorem rdb_yes(i:Nat)(w:World)(hi:i≤29):Calls Tryz.prog 101 #[.int .i64 i] w fun e w'=>e=.returned (.int .i64 (db i:Nat))∧w=w':=by
 have d1:decide ((i:Int)<0)=false:=decide_eq_false (by omega);have d2:decide (29<(i:Int))=false:=decide_eq_false (by omega);have d2':decide (29<i)=false:=decide_eq_false (by omega);by_cases h:i<4
 · have hl:db i=0:=by unfold db;rw[if_pos h]
   rw[hl];have d3:decide ((i:Int)<4)=true:=decide_eq_true (by omega);have d3':decide (i<4)=true:=decide_eq_true h;clear hi h;go_enter Tryz.func101,Tryz.ntmps101;go_wp2;go_ret;exact⟨rfl,rfl⟩
 have d3:decide ((i:Int)<4)=false:=decide_eq_false (by omega);have d3':decide (i<4)=false:=decide_eq_false h;have hl:db i=(i - 2) /2:=by unfold db;rw[if_neg h]
 obtain⟨b,hb⟩:∃b,db i=b:=⟨_,rfl⟩
 rw[hb] at hl ⊢;have e1:((i:Int) - 2) /2=(b:Int):=by omega
 have e2:((i:Int) - 2).tdiv 2=(b:Int):=by rw[Int.tdiv_eq_ediv_of_nonneg (by omega)];exact e1
 have hi2:i≤29:=hi;clear hi h hl hb;go_enter Tryz.func101,Tryz.ntmps101;go_wp2;go_ret;exact⟨rfl,rfl⟩
end Go.Proofs.YtdpabanajgegjaaGreatDoor
namespace Go.Proofs.YtdpabanajgegjaaGreatDoor
open Go.Lib (hid)
open Go Go.RowKit M
theorem fdn_step{l:Nat→Nat}{n j:Nat}(h:n<l (j+1)):fdn l n (j+1)=fdn l n j:=by
 rw[fdn,if_neg (by omega)]
theorem fdn_here{l:Nat→Nat}{n j:Nat}(h:l j≤n):fdn l n j=j:=by
 cases j with
 |zero=>rfl
 |succ j=>rw[fdn,if_pos h]
set_option maxRecDepth 1000000 in
set_option maxHeartbeats 1000000 in
theorem rlen_yes(n:Nat)(w:World)(hn:3≤n∧n≤258):Calls Tryz.prog 98 #[.int .i64 n] w fun e w'=>e=.returned (.tuple #[.int .i64 (257+(lsy n:Nat)),.int .i64 (lex n:Nat)])∧Below w.heap.size w w':=by
 have d1:decide ((n:Int)<3)=false:=decide_eq_false (by omega);have d1':decide (n<3)=false:=decide_eq_false (by omega);have d2:decide (258<(n:Int))=false:=decide_eq_false (by omega);have d2':decide (258<n)=false:=decide_eq_false (by omega);obtain⟨S,hS⟩:∃S,lsy n=S:=⟨_,rfl⟩
 obtain⟨X,hX⟩:∃X,lex n=X:=⟨_,rfl⟩
 rw[hS,hX];have HS:=hid hS;have HX:=hid hX;have HN:=hid hn;clear hS hX hn;go_enter Tryz.func98,Tryz.ntmps98;go_wp2_with (go_at_call 142;(with_reducible refine(rlengths_any _).mono ?_);rintro e w1 ⟨rfl,l1,b1⟩;have L1:=hid l1;have B1:=hid b1;clear l1 b1)
 go_loopw [5] (fun x wr=> ∃j:Nat,j≤28∧x=.int .i64 j∧fdn ll n 28=fdn ll n j∧wr=w1) (fun x _=>(intOf x).toNat)
 case atStart=>exact⟨28,Nat.le_refl _,rfl,rfl,rfl⟩
 case round=>
  obtain⟨j,hj,rfl,hf,rfl⟩:=hrel;have c0:=L1.out.cell hj;obtain⟨v,hv⟩:∃v,ll j=v:=⟨_,rfl⟩
  rw[hv] at c0;have hvb:v≤258:=by rw[←hv];exact ll_le j hj
  by_cases h:v≤n
  · have d3:decide ((v:Int)≤(n:Int))=true:=decide_eq_true (by omega)
    have d3':decide (v≤n)=true:=decide_eq_true h;have hs:S=j:=by rw[←HS.out];unfold lsy;rw[hf];exact fdn_here (by omega)
    have hx:(n:Int) - (v:Int)=(X:Int):=by
     have:X=n - ll S:=by rw[←HX.out,←HS.out];rfl
     rw[hs,hv] at this;omega
    have HSj:=hid hs;have hXb:X≤40000:=by have:=HN.out;omega
    clear hf hv h hs hvb;go_wp2_with fail
    go_quiet (fail)
    go_wp2_with fail;go_ret2;rw[HSj.out];exact⟨rfl,below_drewN B1.out _⟩
  · have d3:decide ((v:Int)≤(n:Int))=false:=decide_eq_false (by omega)
    have d3':decide (v≤n)=false:=decide_eq_false h
    obtain⟨i,rfl⟩:∃i,j=i+1:=⟨j - 1,by
     have:j≠0:=fun e=>by
      rw[e] at hv;have:v=3:=by rw[←hv];rfl
      have:=HN.out;omega
     omega⟩
    have HF:=hid (hf.trans (fdn_step (by rw[hv];omega)));clear hf hv h hvb;go_wp2_with fail;go_roundw
    case rel=>exact⟨i,by omega,by go_num,HF.out,trivial⟩
    case measure=>(simp[intOf];try omega)
set_option maxRecDepth 1000000 in
set_option maxHeartbeats 1000000 in
theorem rdist_yes(n:Nat)(w:World)(hn:1≤n∧n≤32768):Calls Tryz.prog 99 #[.int .i64 n] w fun e w'=>e=.returned (.tuple #[.int .i64 ((dsy n:Nat)),.int .i64 (dex n:Nat)])∧Below w.heap.size w w':=by
 have d1:decide ((n:Int)<1)=false:=decide_eq_false (by omega);have d1':decide (n<1)=false:=decide_eq_false (by omega);have d2:decide (32768<(n:Int))=false:=decide_eq_false (by omega);have d2':decide (32768<n)=false:=decide_eq_false (by omega);obtain⟨S,hS⟩:∃S,dsy n=S:=⟨_,rfl⟩
 obtain⟨X,hX⟩:∃X,dex n=X:=⟨_,rfl⟩
 rw[hS,hX];have HS:=hid hS;have HX:=hid hX;have HN:=hid hn;clear hS hX hn;go_enter Tryz.func99,Tryz.ntmps99;go_wp2_with (go_at_call 143;(with_reducible refine(rdists_any _).mono ?_);rintro e w1 ⟨rfl,l1,b1⟩;have L1:=hid l1;have B1:=hid b1;clear l1 b1)
 go_loopw [5] (fun x wr=> ∃j:Nat,j≤29∧x=.int .i64 j∧fdn dl n 29=fdn dl n j∧wr=w1) (fun x _=>(intOf x).toNat)
 case atStart=>exact⟨29,Nat.le_refl _,rfl,rfl,rfl⟩
 case round=>
  obtain⟨j,hj,rfl,hf,rfl⟩:=hrel;have c0:=L1.out.cell hj;obtain⟨v,hv⟩:∃v,dl j=v:=⟨_,rfl⟩
  rw[hv] at c0;have hvb:v≤24577:=by rw[←hv];exact dl_le j hj
  by_cases h:v≤n
  · have d3:decide ((v:Int)≤(n:Int))=true:=decide_eq_true (by omega)
    have d3':decide (v≤n)=true:=decide_eq_true h;have hs:S=j:=by rw[←HS.out];unfold dsy;rw[hf];exact fdn_here (by omega)
    have hx:(n:Int) - (v:Int)=(X:Int):=by
     have:X=n - dl S:=by rw[←HX.out,←HS.out];rfl
     rw[hs,hv] at this;omega
    have HSj:=hid hs;have hXb:X≤40000:=by have:=HN.out;omega
    clear hf hv h hs hvb;go_wp2_with fail
    go_quiet (fail)
    go_wp2_with fail;go_ret2;rw[HSj.out];exact⟨rfl,below_drewN B1.out _⟩
  · have d3:decide ((v:Int)≤(n:Int))=false:=decide_eq_false (by omega)
    have d3':decide (v≤n)=false:=decide_eq_false h
    obtain⟨i,rfl⟩:∃i,j=i+1:=⟨j - 1,by
     have:j≠0:=fun e=>by
      rw[e] at hv;have:v=1:=by rw[←hv];rfl
      have:=HN.out;omega
     omega⟩
    have HF:=hid (hf.trans (fdn_step (by rw[hv];omega)));clear hf hv h hvb;go_wp2_with fail;go_roundw
    case rel=>exact⟨i,by omega,by go_num,HF.out,trivial⟩
    case measure=>(simp[intOf];try omega)
theorem shr_zero{e b:Nat}(h:e<2^b):(e:Int) /2^b=0:=by
 have e1:((2:Int)^b)=((2^b:Nat):Int):=by rw[Int.natCast_pow];rfl
 rw[e1,←Int.natCast_ediv,Nat.div_eq_of_lt h];rfl
theorem shr_some{e b:Nat}(h:¬e<2^b):(((e:Int) /2^b) !=0)=true:=by
 have e1:((2:Int)^b)=((2^b:Nat):Int):=by rw[Int.natCast_pow];rfl
 rw[e1,←Int.natCast_ediv];have h1:0<e/2^b:=Nat.div_pos (by omega) (Nat.two_pow_pos b);rw[bne_iff_ne];omega
set_option maxRecDepth 1000000 in
theorem rlof_yes(i e:Nat)(w:World)(hi:i≤28)(he:e<4294967296):Calls Tryz.prog 110 #[.int .i64 (257+i:Int),.int .u32 e] w fun x w'=>x=.returned (.int .i64 (lof i e:Nat))∧Below w.heap.size w w':=by
 have HB:=hid (rlb_yes i w hi);have hb:=lb_le i hi;have hll:=ll_le i hi;have hls:=lof_ls (i:=i) (e:=e) hi;obtain⟨b,hb'⟩:∃b,lb i=b:=⟨_,rfl⟩
 rw[hb'] at HB hb hls;have d0:decide ((b:Int)<0)=false:=decide_eq_false (by omega);obtain⟨x,hx⟩:∃x:Int,257+(i:Int)=x:=⟨_,rfl⟩
 rw[hx] at HB ⊢;by_cases h1:e<2^b
 · have hq:=shr_zero h1
   by_cases h2:i=27
   · have e2:(x==284)=true:=by rw[beq_iff_eq];omega
     by_cases h3:e=31
     · have hl:lof i e=0:=by unfold lof;rw[if_neg (fun q=>(hls.2 q.2).2 ⟨h2,h3⟩)]
       rw[hl];have e3:((e:Int)==31)=true:=by rw[beq_iff_eq];omega
       have e3':(e==31)=true:=by rw[beq_iff_eq];exact h3
       clear hl h1 h2 h3 hls hx hb' hi;go_enter Tryz.func110,Tryz.ntmps110;go_wp2_with (go_at_call 100;(with_reducible refine HB.out.mono ?_);rintro e w1 ⟨rfl,rfl⟩);go_ret;exact⟨rfl,Below.refl _ _⟩
     · have hl:lof i e=ll i+e:=by unfold lof;rw[if_pos ⟨hi,hls.1 ⟨h1,fun q=>h3 q.2⟩⟩]
       rw[hl];have e3:((e:Int)==31)=false:=by rw[beq_eq_false_iff_ne];omega
       have e3':(e==31)=false:=by rw[beq_eq_false_iff_ne];exact h3
       have ex:x - 257=(i:Int):=by omega
       have hx1:x≤285:=by omega
       have hx2:0≤x:=by omega
       obtain⟨v,hv⟩:∃v,ll i=v:=⟨_,rfl⟩
       have HV:=hid hv;rw[hv] at hll ⊢;clear hl h1 h2 h3 hls hx hb' hv;go_enter Tryz.func110,Tryz.ntmps110
       go_wp2_with (first
        |(go_at_call 100;(with_reducible refine HB.out.mono ?_);rintro e w1 ⟨rfl,rfl⟩)
        |(go_at_call 142;(with_reducible refine(rlengths_any _).mono ?_);rintro e w1 ⟨rfl,l1,b1⟩;have c0:=l1.cell hi;rw[HV.out] at c0;have B1:=hid b1;clear l1 b1))
       go_ret;exact⟨by simp,B1.out⟩
   · have e2:(x==284)=false:=by rw[beq_eq_false_iff_ne];omega
     have hl:lof i e=ll i+e:=by unfold lof;rw[if_pos ⟨hi,hls.1 ⟨h1,fun q=>h2 q.1⟩⟩]
     rw[hl];have ex:x - 257=(i:Int):=by omega
     have hx1:x≤285:=by omega
     have hx2:0≤x:=by omega
     obtain⟨v,hv⟩:∃v,ll i=v:=⟨_,rfl⟩
     have HV:=hid hv;rw[hv] at hll ⊢;clear hl h1 h2 hls hx hb' hv;go_enter Tryz.func110,Tryz.ntmps110
     go_wp2_with (first
      |(go_at_call 100;(with_reducible refine HB.out.mono ?_);rintro e w1 ⟨rfl,rfl⟩)
      |(go_at_call 142;(with_reducible refine(rlengths_any _).mono ?_);rintro e w1 ⟨rfl,l1,b1⟩;have c0:=l1.cell hi;rw[HV.out] at c0;have B1:=hid b1;clear l1 b1))
     go_ret;exact⟨by simp,B1.out⟩
 · have hq:=shr_some h1
   have hl:lof i e=0:=by unfold lof;rw[if_neg (fun q=>h1 (hls.2 q.2).1)]
   rw[hl];clear hl h1 hls hx hb' hi;go_enter Tryz.func110,Tryz.ntmps110;go_wp2_with (go_at_call 100;(with_reducible refine HB.out.mono ?_);rintro e w1 ⟨rfl,rfl⟩);go_ret;exact⟨rfl,Below.refl _ _⟩
set_option maxRecDepth 1000000 in
theorem rdof_yes(i e:Nat)(w:World)(hi:i≤29)(he:e<4294967296):Calls Tryz.prog 111 #[.int .i64 i,.int .u32 e] w fun x w'=>x=.returned (.int .i64 (dof i e:Nat))∧Below w.heap.size w w':=by
 have HB:=hid (rdb_yes i w hi);have hb:=db_le i hi;have hll:=dl_le i hi;have hd2:ds i=2^db i:=rfl;obtain⟨b,hb'⟩:∃b,db i=b:=⟨_,rfl⟩
 rw[hb'] at HB hb hd2;have d0:decide ((b:Int)<0)=false:=decide_eq_false (by omega);by_cases h1:e<2^b
 · have hq:=shr_zero h1
   have hl:dof i e=dl i+e:=by unfold dof;rw[if_pos ⟨hi,by rw[hd2];exact h1⟩]
   rw[hl];obtain⟨v,hv⟩:∃v,dl i=v:=⟨_,rfl⟩
   have HV:=hid hv;rw[hv] at hll ⊢;clear hl h1 hd2 hb' hv;go_enter Tryz.func111,Tryz.ntmps111
   go_wp2_with (first
    |(go_at_call 101;(with_reducible refine HB.out.mono ?_);rintro e w1 ⟨rfl,rfl⟩)
    |(go_at_call 143;(with_reducible refine(rdists_any _).mono ?_);rintro e w1 ⟨rfl,l1,b1⟩;have c0:=l1.cell hi;rw[HV.out] at c0;have B1:=hid b1;clear l1 b1))
   go_ret;exact⟨by simp,B1.out⟩
 · have hq:=shr_some h1
   have hl:dof i e=0:=by unfold dof;rw[if_neg (fun q=>h1 (by rw[←hd2];exact q.2))]
   rw[hl];clear hl h1 hd2 hb';go_enter Tryz.func111,Tryz.ntmps111;go_wp2_with (go_at_call 101;(with_reducible refine HB.out.mono ?_);rintro e w1 ⟨rfl,rfl⟩);go_ret;exact⟨rfl,Below.refl _ _⟩
end Go.Proofs.YtdpabanajgegjaaGreatDoor
namespace Go.Proofs.YtdpabanajgegjaaGreatDoor.Y
open Go.Lib (hid)
open Go Go.RowKit M
def bt(g p:Nat):Nat:=p/2^g - 1
def lt(l g p:Nat):Nat:=l+(p - bt g p*2^g)*2^bt g p
theorem pow_g{g:Nat}(h:g=1∨g=2):(2:Int)^g=((2^g:Nat):Int):=by rw[Int.natCast_pow];rfl
theorem bt_le{g p:Nat}(hg:g=1∨g=2)(hp:p<32):bt g p≤15:=by
 rcases hg with rfl|rfl<;>(unfold bt;omega)
theorem bt_mul{g p:Nat}(hg:g=1∨g=2)(hp:p<32):bt g p*2^g≤p:=by
 rcases hg with rfl|rfl<;>(unfold bt;omega)
set_option maxRecDepth 1000000 in
theorem bitsAt_any(a c l m g p:Nat)(w:World)(hg:g=1∨g=2)(hp:p<32):Calls Tryz.prog 211 #[.agg #[.int .i64 a,.int .i64 c,.int .i64 l,.int .i64 m,.int .i64 g],.int .i64 p] w fun e w'=>e=.returned (.int .i64 (bt g p:Nat))∧Below w.heap.size w w':=by
 have d0:decide ((g:Int)<0)=false:=decide_eq_false (by omega);have d1:((g:Int)<64):=by omega
 obtain⟨q,hq⟩:∃q,p/2^g=q:=⟨_,rfl⟩
 have hb:bt g p=q - 1:=by unfold bt;rw[hq]
 have h1:(p:Int) /2^g=(q:Int):=by rw[pow_g hg,←Int.natCast_ediv,hq]
 have h2:q≤32:=by rw[←hq];exact Nat.le_trans (Nat.div_le_self _ _) (by omega)
 have h3:wrap64 ((q:Int) - 1)=(q:Int) - 1:=by exact IntWalk.wrap64_in _ ⟨by omega,by omega⟩
 rw[hb];clear hb hq;go_enter Tryz.func211,Tryz.ntmps211;go_wp2_with fail
 · go_ret
   exact⟨by simp;omega,(Below.refl _ _).alloc (Nat.le_refl _) _⟩
 · go_ret
   exact⟨by simp;omega,(Below.refl _ _).alloc (Nat.le_refl _) _⟩
set_option maxRecDepth 1000000 in
theorem leastAt_any(a c l m g p:Nat)(w:World)(hl:l≤3)(hg:g=1∨g=2)(hp:p<32):Calls Tryz.prog 212 #[.agg #[.int .i64 a,.int .i64 c,.int .i64 l,.int .i64 m,.int .i64 g],.int .i64 p] w fun e w'=>e=.returned (.int .i64 (lt l g p:Nat))∧Below w.heap.size w w':=by
 have d0:decide ((g:Int)<0)=false:=decide_eq_false (by omega);have d1:((g:Int)<64):=by omega
 have HB:=hid (fun w=>bitsAt_any a c l m g p w hg hp);have hb:=bt_le hg hp;have hm:=bt_mul hg hp;obtain⟨b,hbe⟩:∃b,bt g p=b:=⟨_,rfl⟩
 have hv:lt l g p=l+(p - b*2^g)*2^b:=by unfold lt;rw[hbe]
 rw[hv];rw[hbe] at HB hb hm;obtain⟨k,hk⟩:∃k,b*2^g=k:=⟨_,rfl⟩
 rw[hk] at hm ⊢;have h1:wrap64 ((b:Int)*2^g)=(k:Int):=by rw[pow_g hg,←Int.natCast_mul,hk];exact IntWalk.wrap64_in _ ⟨by omega,by omega⟩
 have h2:wrap64 ((p:Int) - k)=((p - k:Nat):Int):=by rw[Int.ofNat_sub hm];exact IntWalk.wrap64_in _ ⟨by omega,by omega⟩
 have e2:(2:Int)^b=((2^b:Nat):Int):=by rw[Int.natCast_pow];rfl
 have hp2:2^b≤32768:=Nat.le_trans (Nat.pow_le_pow_right (by decide) hb) (by decide);have hp3:p - k≤31:=by omega
 have hlt:(p - k)*2^b≤31*32768:=Nat.mul_le_mul hp3 hp2;obtain⟨z,hz⟩:∃z,(p - k)*2^b=z:=⟨_,rfl⟩
 rw[hz] at hlt ⊢;have h3:wrap64 (((p - k:Nat):Int)*2^b)=(z:Int):=by rw[e2,←Int.natCast_mul,hz];exact IntWalk.wrap64_in _ ⟨by omega,by omega⟩
 have h4:wrap64 ((l:Int)+z)=((l+z:Nat):Int):=by clear h1 h2 h3 e2 hz;rw[Int.natCast_add];exact IntWalk.wrap64_in _ ⟨by omega,by omega⟩
 have h5:wrap64 ((l:Int)+wrap64 (wrap64 ((p:Int) - wrap64 ((b:Int)*2^g))*2^b))=((l+z:Nat):Int):=by rw[h1,h2,h3,h4]
 have HH:=hid h5;have d2:decide ((b:Int)<0)=false:=decide_eq_false (by omega);have d3:((b:Int)<64):=by omega
 clear hv hbe hm hk h1 h2 e2 hlt hz h3 h4 h5 hp2 hp3;go_enter Tryz.func212,Tryz.ntmps212;go_wp2_with (go_at_call 211;(with_reducible refine(HB.out _).mono ?_);rintro e w1 ⟨rfl,b1⟩;have hb0:=(b1.block w.heap.size (by simp)).trans (heap_alloc_new w _);have k2:w1.cell? ⟨w.heap.size,2,none⟩=some (.int .i64 l):=(by rw[cell_of_row w1 _ _ _ _ _ hb0];rfl);have k4:w1.cell? ⟨w.heap.size,4,none⟩=some (.int .i64 g):=(by rw[cell_of_row w1 _ _ _ _ _ hb0];rfl);have B1:=hid b1;clear b1 hb0)
 go_quiet (fail)
 go_wp2_with fail;go_ret;exact⟨by rw[←HH.out];rfl,below_drewN (((Below.refl _ _).alloc (Nat.le_refl _) _).trans (B1.out.mono (by simp))) _⟩
section
variable {w w':World} {br bn a c l m g n:Nat}
end
set_option maxRecDepth 1000000 in
theorem bitsOf_no(a c l m g:Nat)(x:Int)(W:World)(ha:a≤257)(hc:c≤32)(hx:x<a∨(a:Int)+c≤x):
 Calls Tryz.prog 172 #[.agg #[.int .i64 a,.int .i64 c,.int .i64 l,.int .i64 m,.int .i64 g],.int .i64 x] W fun e w'=>e=.returned (.tuple #[.int .i64 0,.bool false])∧Below W.heap.size W w':=by
 have v1:wrap64 ((a:Int)+c)=(a:Int)+c:=IntWalk.wrap64_in _ ⟨by omega,by omega⟩;by_cases h:x<a
 · have d0:decide (x<(a:Int))=true:=decide_eq_true h
   clear hx h;go_enter Tryz.func172,Tryz.ntmps172;go_wp2_with fail;exact bodyPost_ret (v:=.tuple #[.int .i64 0,.bool false]) (by simp[results,Tryz.results172,go_sem]) rfl ⟨rfl,(Below.refl _ _).alloc (Nat.le_refl _) _⟩
 · have d0:decide (x<(a:Int))=false:=decide_eq_false h
   have d1:decide ((a:Int)+c≤x)=true:=decide_eq_true (by omega);clear hx h;go_enter Tryz.func172,Tryz.ntmps172;go_wp2_with fail;exact bodyPost_ret (v:=.tuple #[.int .i64 0,.bool false]) (by simp[results,Tryz.results172,go_sem]) rfl ⟨rfl,(Below.refl _ _).alloc (Nat.le_refl _) _⟩
set_option maxRecDepth 1000000 in
theorem bitsOf_yes(a c l m g i:Nat)(x:Int)(W:World)(ha:a≤257)(hc:c≤32)(hg:g=1∨g=2)(hi:i<c)(hx:x=a+i):
 Calls Tryz.prog 172 #[.agg #[.int .i64 a,.int .i64 c,.int .i64 l,.int .i64 m,.int .i64 g],.int .i64 x] W fun e w'=>e=.returned (.tuple #[.int .i64 (bt g i:Nat),.bool true])∧Below W.heap.size W w':=by
 have hi32:i<32:=by omega
 have BA:=hid (fun w=>bitsAt_any a c l m g i w hg hi32);obtain⟨z,hz⟩:∃z,bt g i=z:=⟨_,rfl⟩
 rw[hz] at BA ⊢;have v1:wrap64 ((a:Int)+c)=(a:Int)+c:=IntWalk.wrap64_in _ ⟨by omega,by omega⟩;have d0:decide (x<(a:Int))=false:=decide_eq_false (by omega);have d1:decide ((a:Int)+c≤x)=false:=decide_eq_false (by omega);have v2:x - a=(i:Int):=by omega
 have v3:wrap64 (i:Int)=(i:Int):=IntWalk.wrap64_in _ ⟨by omega,by omega⟩;have hx1:0≤x:=by omega
 have hx2:x≤300:=by omega
 clear hz hx hg;go_enter Tryz.func172,Tryz.ntmps172;go_wp2_with (go_at_call 211;(with_reducible refine(BA.out _).mono ?_);rintro e w2 ⟨rfl,b2⟩;have B2:=hid (((Below.refl _ _).alloc (Nat.le_refl _) _).trans (b2.mono (by simp)));clear b2);exact bodyPost_ret (v:=.tuple #[.int .i64 z,.bool true]) (by simp[results,Tryz.results172,go_sem]) rfl ⟨rfl,B2.out⟩
set_option maxRecDepth 1000000 in
theorem numberOf_no(a c l m g:Nat)(x e:Int)(W:World)(ha:a≤257)(hc:c≤32)(hx:x<a∨(a:Int)+c≤x):
 Calls Tryz.prog 173 #[.agg #[.int .i64 a,.int .i64 c,.int .i64 l,.int .i64 m,.int .i64 g],.int .i64 x,.int .u32 e] W fun y w'=>y=.returned (.tuple #[.int .i64 0,.bool false])∧Below W.heap.size W w':=by
 have BO:=hid (fun w=>bitsOf_no a c l m g x w ha hc hx);clear hx;go_enter Tryz.func173,Tryz.ntmps173;go_wp2_with (go_at_call 172;(with_reducible refine(BO.out _).mono ?_);rintro y w2 ⟨rfl,b2⟩;have hb2:=(b2.block W.heap.size (by simp)).trans (heap_alloc_new W _);have k0:w2.cell? ⟨W.heap.size,0,none⟩=some (.int .i64 a):=(by rw[cell_of_row w2 _ _ _ _ _ hb2];rfl);have k1:w2.cell? ⟨W.heap.size,1,none⟩=some (.int .i64 c):=(by rw[cell_of_row w2 _ _ _ _ _ hb2];rfl);have k2:w2.cell? ⟨W.heap.size,2,none⟩=some (.int .i64 l):=(by rw[cell_of_row w2 _ _ _ _ _ hb2];rfl);have k3:w2.cell? ⟨W.heap.size,3,none⟩=some (.int .i64 m):=(by rw[cell_of_row w2 _ _ _ _ _ hb2];rfl);have k4:w2.cell? ⟨W.heap.size,4,none⟩=some (.int .i64 g):=(by rw[cell_of_row w2 _ _ _ _ _ hb2];rfl);have B2:=hid (((Below.refl _ _).alloc (Nat.le_refl _) _).trans (b2.mono (by simp)));clear b2 hb2);exact bodyPost_ret (v:=.tuple #[.int .i64 0,.bool false]) (by simp[results,Tryz.results173,go_sem]) rfl ⟨rfl,B2.out⟩
set_option maxRecDepth 1000000 in
theorem numberOf_many(a c l m g i e:Nat)(x:Int)(W:World)(ha:a≤257)(hc:c≤32)(hg:g=1∨g=2)(hi:i<c)(hx:x=a+i)(he:¬e<2^bt g i):
 Calls Tryz.prog 173 #[.agg #[.int .i64 a,.int .i64 c,.int .i64 l,.int .i64 m,.int .i64 g],.int .i64 x,.int .u32 e] W fun y w'=>y=.returned (.tuple #[.int .i64 0,.bool false])∧Below W.heap.size W w':=by
 have BO:=hid (fun w=>bitsOf_yes a c l m g i x w ha hc hg hi hx);have hz15:=bt_le hg (show i<32 by omega);have hs:=shr_some he;obtain⟨z,hz⟩:∃z,bt g i=z:=⟨_,rfl⟩
 rw[hz] at BO hz15 hs;have d0:decide ((z:Int)<0)=false:=decide_eq_false (by omega);have d1:((z:Int)<64):=by omega
 clear hx hz he;go_enter Tryz.func173,Tryz.ntmps173;go_wp2_with (go_at_call 172;(with_reducible refine(BO.out _).mono ?_);rintro y w2 ⟨rfl,b2⟩;have hb2:=(b2.block W.heap.size (by simp)).trans (heap_alloc_new W _);have k0:w2.cell? ⟨W.heap.size,0,none⟩=some (.int .i64 a):=(by rw[cell_of_row w2 _ _ _ _ _ hb2];rfl);have k1:w2.cell? ⟨W.heap.size,1,none⟩=some (.int .i64 c):=(by rw[cell_of_row w2 _ _ _ _ _ hb2];rfl);have k2:w2.cell? ⟨W.heap.size,2,none⟩=some (.int .i64 l):=(by rw[cell_of_row w2 _ _ _ _ _ hb2];rfl);have k3:w2.cell? ⟨W.heap.size,3,none⟩=some (.int .i64 m):=(by rw[cell_of_row w2 _ _ _ _ _ hb2];rfl);have k4:w2.cell? ⟨W.heap.size,4,none⟩=some (.int .i64 g):=(by rw[cell_of_row w2 _ _ _ _ _ hb2];rfl);have B2:=hid (((Below.refl _ _).alloc (Nat.le_refl _) _).trans (b2.mono (by simp)));clear b2 hb2);exact bodyPost_ret (v:=.tuple #[.int .i64 0,.bool false]) (by simp[results,Tryz.results173,go_sem]) rfl ⟨rfl,B2.out⟩
set_option maxRecDepth 1000000 in
theorem numberOf_yes(a c l m g i e:Nat)(x:Int)(W:World)(ha:a≤257)(hc:c≤32)(hl:l≤3)(hg:g=1∨g=2)(hm:m≤32768)(hi:i<c)(hx:x=a+i)(he:e<2^bt g i)(hu:lt l g i≤32768):
 Calls Tryz.prog 173 #[.agg #[.int .i64 a,.int .i64 c,.int .i64 l,.int .i64 m,.int .i64 g],.int .i64 x,.int .u32 e] W fun y w'=>y=.returned (.tuple #[.int .i64 (if lt l g i+e≤m then lt l g i+e else 0:Nat),.bool (decide (lt l g i+e≤m))])∧Below W.heap.size W w':=by
 have hi32:i<32:=by omega
 have hz15:=bt_le hg hi32;have he2:e<32768:=Nat.lt_of_lt_of_le he (Nat.le_trans (Nat.pow_le_pow_right (by decide) hz15) (by decide));have BO:=hid (fun w=>bitsOf_yes a c l m g i x w ha hc hg hi hx);have LA:=hid (fun w=>leastAt_any a c l m g i w hl hg hi32);have hs:=shr_zero he;clear he;obtain⟨z,hz⟩:∃z,bt g i=z:=⟨_,rfl⟩
 obtain⟨u,hue⟩:∃u,lt l g i=u:=⟨_,rfl⟩
 rw[hz] at BO hz15 hs;have HSS:=hid hs;clear hs;rw[hue] at LA hu ⊢;have d0:decide ((z:Int)<0)=false:=decide_eq_false (by omega);have d1:((z:Int)<64):=by omega
 have v2:x - a=(i:Int):=by omega
 have hx1:0≤x:=by omega
 have hx2:x≤300:=by omega
 have V4:=hid (show wrap64 ((u:Int)+e)=((u+e:Nat):Int) from by rw[Int.natCast_add];exact IntWalk.wrap64_in _ ⟨by omega,by omega⟩);have V3:=hid (show wrap64 (i:Int)=(i:Int) from IntWalk.wrap64_in _ ⟨by omega,by omega⟩);clear hx hz hue hg;by_cases h:u+e≤m
 · have e1:decide (u+e≤m)=true:=decide_eq_true h
   have e2:decide ((m:Int)<((u+e:Nat):Int))=false:=decide_eq_false (by omega);have e3:decide ((m:Int)<(u:Int)+(e:Int))=false:=decide_eq_false (by omega);have e4:decide (m<u+e)=false:=decide_eq_false (by omega);rw[if_pos h,e1];clear h;have hs:=HSS.out;go_enter Tryz.func173,Tryz.ntmps173;go_wp2_with (first|(go_at_call 172;(with_reducible refine(BO.out _).mono ?_);rintro y w2 ⟨rfl,b2⟩;have hb2:=(b2.block W.heap.size (by simp)).trans (heap_alloc_new W _);have k0:w2.cell? ⟨W.heap.size,0,none⟩=some (.int .i64 a):=(by rw[cell_of_row w2 _ _ _ _ _ hb2];rfl);have k1:w2.cell? ⟨W.heap.size,1,none⟩=some (.int .i64 c):=(by rw[cell_of_row w2 _ _ _ _ _ hb2];rfl);have k2:w2.cell? ⟨W.heap.size,2,none⟩=some (.int .i64 l):=(by rw[cell_of_row w2 _ _ _ _ _ hb2];rfl);have k3:w2.cell? ⟨W.heap.size,3,none⟩=some (.int .i64 m):=(by rw[cell_of_row w2 _ _ _ _ _ hb2];rfl);have k4:w2.cell? ⟨W.heap.size,4,none⟩=some (.int .i64 g):=(by rw[cell_of_row w2 _ _ _ _ _ hb2];rfl);have B2:=hid (((Below.refl _ _).alloc (Nat.le_refl _) _).trans (b2.mono (by simp)));clear b2 hb2)|(go_at_call 212;(with_reducible refine(LA.out _).mono ?_);rintro y w3 ⟨rfl,b3⟩;have j3:=(b3.cell (World.block_lt_of_cell? _ _ k3)).trans k3;have B3:=hid (B2.out.trans (b3.mono B2.out.size));clear b3));exact bodyPost_ret (v:=.tuple #[.int .i64 ((u+e:Nat):Int),.bool true]) (by simp[results,Tryz.results173,go_sem]) rfl ⟨rfl,B3.out⟩
 · have e1:decide (u+e≤m)=false:=decide_eq_false h
   have e2:decide ((m:Int)<((u+e:Nat):Int))=true:=decide_eq_true (by omega);have e3:decide ((m:Int)<(u:Int)+(e:Int))=true:=decide_eq_true (by omega);have e4:decide (m<u+e)=true:=decide_eq_true (by omega);rw[if_neg h,e1];clear h;have hs:=HSS.out;go_enter Tryz.func173,Tryz.ntmps173;go_wp2_with (first|(go_at_call 172;(with_reducible refine(BO.out _).mono ?_);rintro y w2 ⟨rfl,b2⟩;have hb2:=(b2.block W.heap.size (by simp)).trans (heap_alloc_new W _);have k0:w2.cell? ⟨W.heap.size,0,none⟩=some (.int .i64 a):=(by rw[cell_of_row w2 _ _ _ _ _ hb2];rfl);have k1:w2.cell? ⟨W.heap.size,1,none⟩=some (.int .i64 c):=(by rw[cell_of_row w2 _ _ _ _ _ hb2];rfl);have k2:w2.cell? ⟨W.heap.size,2,none⟩=some (.int .i64 l):=(by rw[cell_of_row w2 _ _ _ _ _ hb2];rfl);have k3:w2.cell? ⟨W.heap.size,3,none⟩=some (.int .i64 m):=(by rw[cell_of_row w2 _ _ _ _ _ hb2];rfl);have k4:w2.cell? ⟨W.heap.size,4,none⟩=some (.int .i64 g):=(by rw[cell_of_row w2 _ _ _ _ _ hb2];rfl);have B2:=hid (((Below.refl _ _).alloc (Nat.le_refl _) _).trans (b2.mono (by simp)));clear b2 hb2)|(go_at_call 212;(with_reducible refine(LA.out _).mono ?_);rintro y w3 ⟨rfl,b3⟩;have j3:=(b3.cell (World.block_lt_of_cell? _ _ k3)).trans k3;have B3:=hid (B2.out.trans (b3.mono B2.out.size));clear b3));exact bodyPost_ret (v:=.tuple #[.int .i64 0,.bool false]) (by simp[results,Tryz.results173,go_sem]) rfl ⟨rfl,B3.out⟩
end Go.Proofs.YtdpabanajgegjaaGreatDoor.Y
