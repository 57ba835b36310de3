/- Texts of one place, one behind the other: RsA, RsB. -/
import Derived.Test.YtacelhaidcmbcaaGreatDoorTMMathT
import Derived.Test.YtacelhaidcmbcaaGreatDoorTMMaR
import Derived.Test.YtacelhaidcmbcaaGreatDoorChecked
import Derived.KernelRfl
import Derived.WalkKit
import Derived.Lib.Hide
import Derived.Outline
import Derived.Deep.RegionLaw
import Derived.RegionTactic
import Derived.BigRegion
import Derived.BigQuiet
import Derived.Deep.QuietTactic
import Derived.ChangeAlike
import Derived.Laws.Cells
import Derived.WalkSpells
import Derived.WalkMore
import Derived.IntWalk
set_option maxHeartbeats 8000000
set_option maxRecDepth 1000000
set_option linter.unusedVariables false
set_option linter.unusedSimpArgs false
namespace Go.Proofs.YtacelhaidcmbcaaGreatDoor
open Go Go.RowKit M
def LLs(w:World)(g:Nat):Prop:=w.heap[g]? =some (.cells #[.int .i64 3,.int .i64 4,.int .i64 5,.int .i64 6,.int .i64 7,.int .i64 8,.int .i64 9,.int .i64 10,.int .i64 11,.int .i64 13,.int .i64 15,.int .i64 17,.int .i64 19,.int .i64 23,.int .i64 27,.int .i64 31,.int .i64 35,.int .i64 43,.int .i64 51,.int .i64 59,.int .i64 67,.int .i64 83,.int .i64 99,.int .i64 115,.int .i64 131,.int .i64 163,.int .i64 195,.int .i64 227,.int .i64 258] 3 (0,0))
def DLs(w:World)(g:Nat):Prop:=w.heap[g]? =some (.cells #[.int .i64 1,.int .i64 2,.int .i64 3,.int .i64 4,.int .i64 5,.int .i64 7,.int .i64 9,.int .i64 13,.int .i64 17,.int .i64 25,.int .i64 33,.int .i64 49,.int .i64 65,.int .i64 97,.int .i64 129,.int .i64 193,.int .i64 257,.int .i64 385,.int .i64 513,.int .i64 769,.int .i64 1025,.int .i64 1537,.int .i64 2049,.int .i64 3073,.int .i64 4097,.int .i64 6145,.int .i64 8193,.int .i64 12289,.int .i64 16385,.int .i64 24577] 3 (0,0))
theorem LLs.cell{w:World}{g:Nat}(h:LLs w g){i:Nat}(hi:i≤28):w.cell? ⟨g,i,none⟩=some (.int .i64 (ll i:Nat)):=by
 have e:(#[.int .i64 3,.int .i64 4,.int .i64 5,.int .i64 6,.int .i64 7,.int .i64 8,.int .i64 9,.int .i64 10,.int .i64 11,.int .i64 13,.int .i64 15,.int .i64 17,.int .i64 19,.int .i64 23,.int .i64 27,.int .i64 31,.int .i64 35,.int .i64 43,.int .i64 51,.int .i64 59,.int .i64 67,.int .i64 83,.int .i64 99,.int .i64 115,.int .i64 131,.int .i64 163,.int .i64 195,.int .i64 227,.int .i64 258]:Array Value)=(lls.map fun x:Nat=>Value.int .i64 (x:Int)).toArray:=rfl;have hl:lls.length=29:=rfl;unfold LLs at h;rw[e] at h;simp only[World.cell?,h];rw[List.getElem?_toArray,List.getElem?_map,qE (by rw[hl];omega)];unfold ll;rw[List.getD,qE (by rw[hl];omega)];rfl
theorem DLs.cell{w:World}{g:Nat}(h:DLs w g){i:Nat}(hi:i≤29):w.cell? ⟨g,i,none⟩=some (.int .i64 (dl i:Nat)):=by
 have e:(#[.int .i64 1,.int .i64 2,.int .i64 3,.int .i64 4,.int .i64 5,.int .i64 7,.int .i64 9,.int .i64 13,.int .i64 17,.int .i64 25,.int .i64 33,.int .i64 49,.int .i64 65,.int .i64 97,.int .i64 129,.int .i64 193,.int .i64 257,.int .i64 385,.int .i64 513,.int .i64 769,.int .i64 1025,.int .i64 1537,.int .i64 2049,.int .i64 3073,.int .i64 4097,.int .i64 6145,.int .i64 8193,.int .i64 12289,.int .i64 16385,.int .i64 24577]:Array Value)=(dls.map fun x:Nat=>Value.int .i64 (x:Int)).toArray:=rfl;have hl:dls.length=30:=rfl;unfold DLs at h;rw[e] at h;simp only[World.cell?,h];rw[List.getElem?_toArray,List.getElem?_map,qE (by rw[hl];omega)];unfold dl;rw[List.getD,qE (by rw[hl];omega)];rfl
theorem z5K(w:World):Calls Tryz.prog 112 #[] w fun e w'=>e=.returned (.slice (some ⟨w.heap.size,0,none⟩) 29 29)∧LLs w' w.heap.size∧Below w.heap.size w w':=by
 go_enter Tryz.func112,Tryz.ntmps112;go_wp2;go_ret;exact⟨rfl,heap_alloc_new _ _,qL⟩
theorem z8Y(w:World):Calls Tryz.prog 113 #[] w fun e w'=>e=.returned (.slice (some ⟨w.heap.size,0,none⟩) 30 30)∧DLs w' w.heap.size∧Below w.heap.size w w':=by
 go_enter Tryz.func113,Tryz.ntmps113;go_wp2;go_ret;exact⟨rfl,heap_alloc_new _ _,qL⟩
theorem zg0(i:Nat)(w:World)(hi:i≤28):Calls Tryz.prog 80 #[.int .i64 (257+i:Int)] w fun e w'=>e=.returned (.int .i64 (lb i:Nat))∧w=w':=by
 obtain⟨x,hx⟩:∃x:Int,257+(i:Int)=x:=⟨_,rfl⟩
 rw[hx];have d1:decide (x<257)=false:=qF (by omega);have d2:decide (285<x)=false:=qF (by omega);by_cases h:i<8
 · have hl:lb i=0:=by unfold lb;rw[if_pos (.inl h)]
   rw[hl];have d3:decide (x<265)=true:=q9T (by omega);clear hx hi h;go_enter Tryz.func80,Tryz.ntmps80;go_wp2;go_ret;exact⟨rfl,rfl⟩
 have d3:decide (x<265)=false:=qF (by omega);by_cases h28:i=28
 · have hl:lb i=0:=by unfold lb;rw[if_pos (.inr h28)]
   rw[hl];have d4:(x==285)=true:=by rw[beq_iff_eq];omega
   clear hx hi h h28;go_enter Tryz.func80,Tryz.ntmps80;go_wp2;go_ret;exact⟨rfl,rfl⟩
 have d4:(x==285)=false:=by rw[qN];omega
 have hl:lb i=(i - 4) /4:=by unfold lb;rw[if_neg (by omega)]
 obtain⟨b,hb⟩:∃b,lb i=b:=⟨_,rfl⟩
 rw[hb] at hl ⊢;have e1:(x - 261) /4=(b:Int):=by omega
 have e2:(x - 261).tdiv 4=(b:Int):=by rw[Int.tdiv_eq_ediv_of_nonneg (by omega)];exact e1
 have hx1:0≤x:=by omega
 have hx2:x≤285:=by omega
 clear hx hi h h28 hl hb;go_enter Tryz.func80,Tryz.ntmps80;go_wp2;go_ret;exact⟨rfl,rfl⟩
theorem zg2(i:Nat)(w:World)(hi:i≤29):Calls Tryz.prog 81 #[.int .i64 i] w fun e w'=>e=.returned (.int .i64 (db i:Nat))∧w=w':=by
 have d1:decide ((i:Int)<0)=false:=qF (by omega);have d2:decide (29<(i:Int))=false:=qF (by omega);have d2':decide (29<i)=false:=qF (by omega);by_cases h:i<4
 · have hl:db i=0:=by unfold db;rw[if_pos h]
   rw[hl];have d3:decide ((i:Int)<4)=true:=q9T (by omega);have d3':decide (i<4)=true:=q9T h;clear hi h;go_enter Tryz.func81,Tryz.ntmps81;go_wp2;go_ret;exact⟨rfl,rfl⟩
 have d3:decide ((i:Int)<4)=false:=qF (by omega);have d3':decide (i<4)=false:=qF h;have hl:db i=(i - 2) /2:=by unfold db;rw[if_neg h]
 obtain⟨b,hb⟩:∃b,db i=b:=⟨_,rfl⟩
 rw[hb] at hl ⊢;have e1:((i:Int) - 2) /2=(b:Int):=by omega
 have e2:((i:Int) - 2).tdiv 2=(b:Int):=by rw[Int.tdiv_eq_ediv_of_nonneg (by omega)];exact e1
 have hi2:i≤29:=hi;clear hi h hl hb;go_enter Tryz.func81,Tryz.ntmps81;go_wp2;go_ret;exact⟨rfl,rfl⟩
end Go.Proofs.YtacelhaidcmbcaaGreatDoor
namespace Go.Proofs.YtacelhaidcmbcaaGreatDoor
open Go.Lib (hid)
open Go Go.RowKit M
theorem z8e{l:Nat→Nat}{n j:Nat}(h:n<l (j+1)):fdn l n (j+1)=fdn l n j:=by
 rw[fdn,if_neg (by omega)]
theorem z8g{l:Nat→Nat}{n j:Nat}(h:l j≤n):fdn l n j=j:=by
 cases j with
 |zero=>rfl
 |succ j=>rw[fdn,if_pos h]
theorem zd7(n:Nat)(w:World)(hn:3≤n∧n≤258):Calls Tryz.prog 78 #[.int .i64 n] w fun e w'=>e=.returned (.tuple #[.int .i64 (257+(lsy n:Nat)),.int .i64 (lex n:Nat)])∧Below w.heap.size w w':=by
 have d1:decide ((n:Int)<3)=false:=qF (by omega);have d1':decide (n<3)=false:=qF (by omega);have d2:decide (258<(n:Int))=false:=qF (by omega);have d2':decide (258<n)=false:=qF (by omega);obtain⟨S,hS⟩:∃S,lsy n=S:=⟨_,rfl⟩
 obtain⟨X,hX⟩:∃X,lex n=X:=⟨_,rfl⟩
 rw[hS,hX];have HS:=hid hS;have HX:=hid hX;have HN:=hid hn;clear hS hX hn;go_enter Tryz.func78,Tryz.ntmps78;go_wp2_with (go_at_call 112;(with_reducible refine(z5K _).mono ?_);rintro e w1 ⟨rfl,l1,b1⟩;have L1:=hid l1;have B1:=hid b1;clear l1 b1)
 go_loopw [5] (fun x wr=> ∃j:Nat,j≤28∧x=.int .i64 j∧fdn ll n 28=fdn ll n j∧wr=w1) (fun x _=>(intOf x).toNat)
 case atStart=>exact⟨28,qR,rfl,rfl,rfl⟩
 case round=>
  obtain⟨j,hj,rfl,hf,rfl⟩:=hrel;have c0:=L1.out.cell hj;obtain⟨v,hv⟩:∃v,ll j=v:=⟨_,rfl⟩
  rw[hv] at c0;have hvb:v≤258:=by rw[←hv];exact zj4 j hj
  by_cases h:v≤n
  · have d3:decide ((v:Int)≤(n:Int))=true:=q9T (by omega)
    have d3':decide (v≤n)=true:=q9T h;have hs:S=j:=by rw[←HS.out];unfold lsy;rw[hf];exact z8g (by omega)
    have hx:(n:Int) - (v:Int)=(X:Int):=by
     have:X=n - ll S:=by rw[←HX.out,←HS.out];rfl
     rw[hs,hv] at this;omega
    have HSj:=hid hs;have hXb:X≤40000:=by have:=HN.out;omega
    clear hf hv h hs hvb;go_wp2_with fail
    go_quiet (fail)
    go_wp2_with fail;go_ret2;rw[HSj.out];exact⟨rfl,z00 B1.out _⟩
  · have d3:decide ((v:Int)≤(n:Int))=false:=qF (by omega)
    have d3':decide (v≤n)=false:=qF h
    obtain⟨i,rfl⟩:∃i,j=i+1:=⟨j - 1,by
     have:j≠0:=fun e=>by
      rw[e] at hv;have:v=3:=by rw[←hv];rfl
      have:=HN.out;omega
     omega⟩
    have HF:=hid (hf.trans (z8e (by rw[hv];omega)));clear hf hv h hvb;go_wp2_with fail;go_roundw
    case rel=>exact⟨i,by omega,by go_num,HF.out,trivial⟩
    case measure=>(simp[intOf];try omega)
theorem zam(n:Nat)(w:World)(hn:1≤n∧n≤32768):Calls Tryz.prog 79 #[.int .i64 n] w fun e w'=>e=.returned (.tuple #[.int .i64 ((dsy n:Nat)),.int .i64 (dex n:Nat)])∧Below w.heap.size w w':=by
 have d1:decide ((n:Int)<1)=false:=qF (by omega);have d1':decide (n<1)=false:=qF (by omega);have d2:decide (32768<(n:Int))=false:=qF (by omega);have d2':decide (32768<n)=false:=qF (by omega);obtain⟨S,hS⟩:∃S,dsy n=S:=⟨_,rfl⟩
 obtain⟨X,hX⟩:∃X,dex n=X:=⟨_,rfl⟩
 rw[hS,hX];have HS:=hid hS;have HX:=hid hX;have HN:=hid hn;clear hS hX hn;go_enter Tryz.func79,Tryz.ntmps79;go_wp2_with (go_at_call 113;(with_reducible refine(z8Y _).mono ?_);rintro e w1 ⟨rfl,l1,b1⟩;have L1:=hid l1;have B1:=hid b1;clear l1 b1)
 go_loopw [5] (fun x wr=> ∃j:Nat,j≤29∧x=.int .i64 j∧fdn dl n 29=fdn dl n j∧wr=w1) (fun x _=>(intOf x).toNat)
 case atStart=>exact⟨29,qR,rfl,rfl,rfl⟩
 case round=>
  obtain⟨j,hj,rfl,hf,rfl⟩:=hrel;have c0:=L1.out.cell hj;obtain⟨v,hv⟩:∃v,dl j=v:=⟨_,rfl⟩
  rw[hv] at c0;have hvb:v≤24577:=by rw[←hv];exact zja j hj
  by_cases h:v≤n
  · have d3:decide ((v:Int)≤(n:Int))=true:=q9T (by omega)
    have d3':decide (v≤n)=true:=q9T h;have hs:S=j:=by rw[←HS.out];unfold dsy;rw[hf];exact z8g (by omega)
    have hx:(n:Int) - (v:Int)=(X:Int):=by
     have:X=n - dl S:=by rw[←HX.out,←HS.out];rfl
     rw[hs,hv] at this;omega
    have HSj:=hid hs;have hXb:X≤40000:=by have:=HN.out;omega
    clear hf hv h hs hvb;go_wp2_with fail
    go_quiet (fail)
    go_wp2_with fail;go_ret2;rw[HSj.out];exact⟨rfl,z00 B1.out _⟩
  · have d3:decide ((v:Int)≤(n:Int))=false:=qF (by omega)
    have d3':decide (v≤n)=false:=qF h
    obtain⟨i,rfl⟩:∃i,j=i+1:=⟨j - 1,by
     have:j≠0:=fun e=>by
      rw[e] at hv;have:v=1:=by rw[←hv];rfl
      have:=HN.out;omega
     omega⟩
    have HF:=hid (hf.trans (z8e (by rw[hv];omega)));clear hf hv h hvb;go_wp2_with fail;go_roundw
    case rel=>exact⟨i,by omega,by go_num,HF.out,trivial⟩
    case measure=>(simp[intOf];try omega)
end Go.Proofs.YtacelhaidcmbcaaGreatDoor
