/- Texts of one place, one behind the other: DfA, DfB, DfN. -/
import Derived.Test.YtacelhaidcmbcaaGreatDoorTMDfM
import Derived.Test.YtacelhaidcmbcaaGreatDoorTMP8TkK
import Derived.Test.YtacelhaidcmbcaaGreatDoorTMP8Tos
import Derived.Test.YtacelhaidcmbcaaGreatDoorTMMath
import Derived.Test.YtacelhaidcmbcaaGreatDoorTMSpK
import Derived.Deep.RegionHeld3
import Derived.BigQuiet
import Derived.Deep.QuietTactic
import Derived.OwnWalk
set_option maxHeartbeats 8000000
set_option maxRecDepth 1000000
set_option linter.unusedVariables false
set_option linter.unusedSimpArgs false
namespace Go.Proofs.YtacelhaidcmbcaaGreatDoor.V
open Go Go.RowKit M U
noncomputable def dtk(d t:ByteArray)(k:Nat):List Tk:=if k=0 then Px.Q.lits t t.size else Px.G (Px.cutd d++t) (Px.Q.lv k) (Px.cutd d).size (0,0)
noncomputable def dbs(d t:ByteArray)(k:Nat):List Nat:=sbt (dtk d t k) t k
noncomputable def dby(d t:ByteArray)(k:Nat):ByteArray:=z1P (nb (dbs d t k)) (dbs d t k).length
theorem z8M(V L:Nat):(z1P V L).size=(L+7) /8:=by
 unfold z1P;rw[M.bstr_size,M.le_length]
theorem z1r(d t:ByteArray)(k:Nat):(dby d t k).size=((dbs d t k).length+7) /8:=z8M _ _
theorem z2P(d t:ByteArray)(k:Nat):Tx.szs (dtk d t k)=t.size:=by
 unfold dtk
 split
 · exact zcL t t.size
 · have h:=ziO (Px.cutd d++t) (Px.Q.lv k) (Px.cutd d).size (0,0) (by rw[ByteArray.size_append];omega) (fun h=>absurd rfl h)
   rw[h,ByteArray.size_append];omega
theorem z3h(d t:ByteArray)(k:Nat):(dtk d t k).length≤t.size:=by
 unfold dtk
 split
 · rw[Px.Q.lits_length];exact qR
 · have h:=Px.G_len (Px.cutd d++t) (Px.Q.lv k) (Px.cutd d).size (0,0) (fun h=>absurd rfl h)
   rw[ByteArray.size_append] at h;omega
theorem z3k(d t:ByteArray)(k:Nat)(ht:t.size≤65535):(dby d t k).size≤bnd t.size∧1≤(dby d t k).size:=by
 rw[z1r];refine⟨za5 ht (z3h d t k) (z2P d t k),?_⟩;have:=zcZ (L:=dtk d t k) (lv:=k) ht;unfold dbs;omega
structure Dfs(T:World→Prop):Prop where
 keep:∀ {w w':World},T w→Below w.heap.size w w'→T w'
 yes:∀ (d t:ByteArray) (k:Nat) (most:Int) (w:World),T w→d.size≤100000→t.size≤30000→k≤9→most≤9223372036854775807→(((dbs d t k).length+7) /8:Nat)≤most→
  Calls Tryz.prog 6 #[.string d,.string t,.int .i64 k,.int .i64 most] w fun e w'=>e=.returned (.tuple #[.string (dby d t k),.int .i64 0])∧Below w.heap.size w w'
 full:∀ (d t:ByteArray) (k:Nat) (most:Int) (w:World),T w→d.size≤100000→t.size≤30000→k≤9→ -9223372036854775808≤most→most<(((dbs d t k).length+7) /8:Nat)→
  Calls Tryz.prog 6 #[.string d,.string t,.int .i64 k,.int .i64 most] w fun e w'=>e=.returned (.tuple #[.string ⟨#[]⟩,.int .i64 4])∧Below w.heap.size w w'
 no:∀ (d t:ByteArray) (k most:Int) (w:World),T w→(k<0∨9<k)→
  Calls Tryz.prog 6 #[.string d,.string t,.int .i64 k,.int .i64 most] w fun e w'=>e=.returned (.tuple #[.string ⟨#[]⟩,.int .i64 2])∧Below w.heap.size w w'
 bound:∀ (n:Nat) (w:World),T w→n≤1000000→Calls Tryz.prog 8 #[.int .i64 n] w fun e w'=>e=.returned (.int .i64 (bnd n:Nat))∧Below w.heap.size w w'
end Go.Proofs.YtacelhaidcmbcaaGreatDoor.V
namespace Go.Proofs.YtacelhaidcmbcaaGreatDoor.V
open Go.Lib (hid)
open Go Go.RowKit M U
theorem zbP(t:ByteArray):Px.cutd ⟨#[]⟩++t=t:=by
 rw[Px.cutd_all (by decide)];exact ByteArray.empty_append
theorem ze1{t:ByteArray}{k:Nat}(h0:k≠0):dtk ⟨#[]⟩ t k=Px.G t (Px.Q.lv k) 0 (0,0):=by
 unfold dtk;rw[if_neg h0,zbP,Px.cutd_all (by decide)];rfl
theorem z69:dbs ⟨#[]⟩ ⟨#[]⟩ 6=[1,1,0,0,0,0,0,0,0,0]:=by
 have h1:dtk ⟨#[]⟩ ⟨#[]⟩ 6=[]:=by rw[ze1 (by decide)];exact Px.G_end (by decide)
 have h2:(kp [] ⟨#[]⟩ 0 0).1=1:=by
  unfold kp;rw[show seg [] 0 0=[] from rfl,show(⟨#[]⟩:ByteArray).extract (szt [] 0) (szt [] 0)=⟨#[]⟩ by simp[szt,Tx.szs];rfl,zi9]
 unfold dbs sbt;rw[h1,if_neg (by decide),zdf];simp only[prs,List.append_nil];unfold blq;simp only[h2];rw[show seg [] 0 0=[] from rfl,show(⟨#[]⟩:ByteArray).extract (szt [] 0) (szt [] 0)=⟨#[]⟩ by simp[szt,Tx.szs];rfl];rw[z0N (by decide)];unfold blk;rw[if_neg (by decide),if_pos rfl];decide+kernel
theorem zbM:dby ⟨#[]⟩ ⟨#[]⟩ 6=⟨#[3,0]⟩:=by
 unfold dby;rw[z69];decide+kernel
theorem zfo{T:World→Prop}(C:Dfs T)(w:World)(H:T w):Calls Tryz.prog 5 #[] w fun e w'=>e=.returned (.bool true)∧Below w.heap.size w w':=by
 have hlen:((dbs ⟨#[]⟩ ⟨#[]⟩ 6).length+7) /8=2:=by rw[z69];rfl
 have H1:=hid (show Calls Tryz.prog 6 #[.string ⟨#[]⟩,.string ⟨#[]⟩,.int .i64 6,.int .i64 9] w fun e w'=>e=.returned (.tuple #[.string ⟨#[3,0]⟩,.int .i64 0])∧Below w.heap.size w w' from by
  have h:=C.yes ⟨#[]⟩ ⟨#[]⟩ 6 9 w H (by decide) (by decide) (by decide) (by decide) (by rw[hlen];decide);rw[zbM] at h;exact h)
 have H2:=hid (fun(w':World) (b:Below w.heap.size w w')=>(show Calls Tryz.prog 6 #[.string ⟨#[]⟩,.string ⟨#[]⟩,.int .i64 6,.int .i64 1] w' fun e w2=>e=.returned (.tuple #[.string ⟨#[]⟩,.int .i64 4])∧Below w'.heap.size w' w2 from
  C.full ⟨#[]⟩ ⟨#[]⟩ 6 1 w' (C.keep H b) (by decide) (by decide) (by decide) (by decide) (by rw[hlen];decide)))
 have H3:=hid (fun(w':World) (b:Below w.heap.size w w')=>(show Calls Tryz.prog 6 #[.string ⟨#[]⟩,.string ⟨#[]⟩,.int .i64 (-1),.int .i64 9] w' fun e w2=>e=.returned (.tuple #[.string ⟨#[]⟩,.int .i64 2])∧Below w'.heap.size w' w2 from
  C.no ⟨#[]⟩ ⟨#[]⟩ (-1) 9 w' (C.keep H b) (.inl (by decide))))
 have H4:=hid (fun(w':World) (b:Below w.heap.size w w')=>(show Calls Tryz.prog 8 #[.int .i64 0] w' fun e w2=>e=.returned (.int .i64 6)∧Below w'.heap.size w' w2 from C.bound 0 w' (C.keep H b) (by decide)));have H5:=hid (fun(w':World) (b:Below w.heap.size w w')=>(show Calls Tryz.prog 8 #[.int .i64 3] w' fun e w2=>e=.returned (.int .i64 9)∧Below w'.heap.size w' w2 from C.bound 3 w' (C.keep H b) (by decide)));clear H C hlen;go_enter Tryz.func5,Tryz.ntmps5
 go_wp2_with (first
  |(go_at_call 6;(with_reducible refine H1.out.mono ?_);rintro e w1 ⟨rfl,b1⟩;have B1:=hid b1;clear b1)
  |(go_at_call 6;(with_reducible refine(H2.out _ B1.out).mono ?_);rintro e w2 ⟨rfl,b2⟩;have B2:=hid (B1.out.trans (b2.mono B1.out.size));clear b2)
  |(go_at_call 6;(with_reducible refine(H3.out _ B2.out).mono ?_);rintro e w3 ⟨rfl,b3⟩;have B3:=hid (B2.out.trans (b3.mono B2.out.size));clear b3)
  |(go_at_call 8;(with_reducible refine(H4.out _ B3.out).mono ?_);rintro e w4 ⟨rfl,b4⟩;have B4:=hid (B3.out.trans (b4.mono B3.out.size));clear b4)
  |(go_at_call 8;(with_reducible refine(H5.out _ B4.out).mono ?_);rintro e w5 ⟨rfl,b5⟩;have B5:=hid (B4.out.trans (b5.mono B4.out.size));clear b5))
 go_ret;exact⟨rfl,B5.out⟩
theorem z6j(n s:Nat)(w:World)(h0:1≤n)(hn:n≤2000000)(hs:s≤100000)(h1:1≤s):Calls Tryz.prog 16 #[.int .i64 n,.int .i64 s] w fun e w'=>e=.returned (.int .i64 ((n - 1) /s+1:Nat))∧w'=w:=by
 obtain⟨m,hm⟩:∃m,n - 1=m:=⟨_,rfl⟩
 have e1:(n:Int) - 1=(m:Int):=by omega
 obtain⟨q,hq⟩:∃q,m/s=q:=⟨_,rfl⟩
 have hq1:q≤m:=by rw[←hq];exact Nat.div_le_self _ _
 have e2:Int.tdiv (m:Int) (s:Int)=(q:Int):=by rw[Int.tdiv_eq_ediv_of_nonneg (by omega),←hq];exact(Int.natCast_ediv m s).symm
 have e3:(m:Int) / (s:Int)=(q:Int):=by rw[←hq];exact(Int.natCast_ediv m s).symm
 have e4:((s:Int)==0)=false:=by rw[qN];omega
 have e5:(s==0)=false:=by rw[qN];omega
 have e6:¬(s:Int)=0:=by omega
 have e7:¬s=0:=by omega
 have hm3:m≤3000000:=by omega
 rw[hm,hq];clear hq;go_enter Tryz.func16,Tryz.ntmps16;go_wp2_with fail;go_ret;exact⟨rfl,rfl⟩
theorem zcd(n:Nat)(w:World)(hn:n≤1000000):Calls Tryz.prog 8 #[.int .i64 n] w fun e w'=>e=.returned (.int .i64 (bnd n:Nat))∧Below w.heap.size w w':=by
 by_cases h0:n=0
 · subst h0
   go_enter Tryz.func8,Tryz.ntmps8;go_wp2_with fail;go_ret;exact⟨rfl,Below.refl _ _⟩
 · have d1:decide ((n:Int)≤0)=false:=qF (by omega)
   have d1':decide (n=0)=false:=qF h0;have d1'':¬(n:Int)≤0:=by omega
   obtain⟨x,hx⟩:∃x,(n - 1) /1024+1=x:=⟨_,rfl⟩
   obtain⟨y,hy⟩:∃y,(n - 1) /65535+1=y:=⟨_,rfl⟩
   have hx1:x≤2000:=by omega
   have hy1:y≤2000:=by omega
   have hy2:1≤y:=by omega
   have B1:=hid (show Calls Tryz.prog 16 #[.int .i64 n,.int .i64 1024] w fun e w'=>e=.returned (.int .i64 x)∧w'=w from by
    have h:=z6j n 1024 w (by omega) (by omega) (by omega) (by omega);rw[hx] at h;exact h)
   have B2:=hid (show Calls Tryz.prog 16 #[.int .i64 n,.int .i64 65535] w fun e w'=>e=.returned (.int .i64 y)∧w'=w from by
    have h:=z6j n 65535 w (by omega) (by omega) (by omega) (by omega);rw[hy] at h;exact h)
   have hr:bnd n=n+6*x+5*(y - 1):=by unfold bnd;rw[if_neg h0];omega
   obtain⟨r,hr'⟩:∃r,bnd n=r:=⟨_,rfl⟩
   rw[hr'];have hr2:(n:Int)+6*(x:Int)+5*((y:Int) - 1)=(r:Int):=by omega
   have hrb:r≤2000000:=by omega
   clear hx hy hr hr';go_enter Tryz.func8,Tryz.ntmps8
   go_wp2_with (first
    |(go_at_call 16;(with_reducible refine B1.out.mono ?_);rintro e w1 ⟨rfl,rfl⟩)
    |(go_at_call 16;(with_reducible refine B2.out.mono ?_);rintro e w1 ⟨rfl,rfl⟩))
   go_ret;exact⟨rfl,Below.refl _ _⟩
theorem zik(d t:ByteArray)(k:Int)(w:World)(hk:k<0∨9<k):Calls Tryz.prog 9 #[.string d,.string t,.int .i64 k] w fun e w'=>e=.returned (.tuple #[.slice none 0 0,.slice none 0 0,.int .i64 2])∧Below w.heap.size w w':=by
 have HN:=hid (Px.tokens_no d t k w hk);have e1:(k==0)=false:=by rw[qN];omega
 have e2:¬k=0:=by omega
 clear hk;go_enter Tryz.func9,Tryz.ntmps9;go_wp2_with (go_at_call 17;(with_reducible refine HN.out.mono ?_);rintro e w1 ⟨rfl,b1⟩;have B1:=hid b1;clear b1);go_ret3;exact⟨rfl,B1.out⟩
theorem z9l(d t:ByteArray)(k most:Int)(w:World)(hk:k<0∨9<k):Calls Tryz.prog 6 #[.string d,.string t,.int .i64 k,.int .i64 most] w fun e w'=>e=.returned (.tuple #[.string ⟨#[]⟩,.int .i64 2])∧Below w.heap.size w w':=by
 have HN:=hid (zik d t k w hk);clear hk;go_enter Tryz.func6,Tryz.ntmps6;go_wp2_with (go_at_call 9;(with_reducible refine HN.out.mono ?_);rintro e w1 ⟨rfl,b1⟩;have B1:=hid b1;clear b1);go_ret2;exact⟨rfl,B1.out⟩
end Go.Proofs.YtacelhaidcmbcaaGreatDoor.V
