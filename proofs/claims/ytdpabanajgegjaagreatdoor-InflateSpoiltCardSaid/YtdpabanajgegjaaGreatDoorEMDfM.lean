/- Texts of one place, one behind the other: DfM, Tbx, DfA. -/
import Derived.Test.YtdpabanajgegjaaGreatDoorEMSpK
import Derived.Test.YtdpabanajgegjaaGreatDoorEMP8MathC
import Derived.Test.YtdpabanajgegjaaGreatDoorEMP8RfC
import Derived.Test.YtdpabanajgegjaaGreatDoorETbs
import Derived.Test.YtdpabanajgegjaaGreatDoorEMMathT
import Derived.Test.YtdpabanajgegjaaGreatDoorRows
import Derived.OpenShut
import Derived.LaidMore
import Derived.Deep.DeepHandedRow
import Derived.MakeChecks
import Derived.Test.YtdpabanajgegjaaGreatDoorEP8Par
import Derived.Test.YtdpabanajgegjaaGreatDoorEMMath
set_option linter.unusedVariables false
set_option linter.unusedSimpArgs false
set_option maxRecDepth 1000000
namespace Go.Proofs.YtdpabanajgegjaaGreatDoor.V
open Go Go.RowKit M U
noncomputable def blq(L:List Tk)(s:ByteArray)(q:Nat×Nat)(last:Bool)(o:Nat):List Nat:=bkm (kp L s q.1 q.2).1 (seg L q.1 q.2) (s.extract (szt L q.1) (szt L q.2)) last o
noncomputable def prs(L:List Tk)(s:ByteArray):List (Nat×Nat)→Nat→List Nat
 |[],_=> []
 |q::r,o=>blq L s q r.isEmpty o++prs L s r (o+(blq L s q r.isEmpty o).length)
noncomputable def sbt(L:List Tk)(s:ByteArray)(lv:Nat):List Nat:=if lv=0 then bkm 0 [] s true 0 else prs L s (pts L s) 0
theorem bkm_near{k:Nat}{L:List Tk}{s:ByteArray}{last:Bool}{o:Nat}(hk:k≤2)(hs:s.size≤65535):(bkm k L s last o).length≤b3 L s k+2:=by
 unfold b3;rw[bkm_blk hs,bkm_blk hs];have hc:k=0∨k=1∨k=2:=by omega
 rcases hc with rfl|rfl|rfl
 · unfold blk
   rw[if_pos rfl,if_pos rfl,stb_length,stb_length];unfold pd;omega
 · unfold blk
   rw[if_neg (by decide),if_pos rfl,if_neg (by decide),if_pos rfl,List.length_append,List.length_append,hdb_length,hdb_length];omega
 · unfold blk
   rw[if_neg (by decide),if_neg (by decide),if_neg (by decide),if_neg (by decide),List.length_append,List.length_append,List.length_append,List.length_append,hdb_length,hdb_length];omega
theorem blq_near{L:List Tk}{s:ByteArray}{q:Nat×Nat}{last:Bool}{o:Nat}(hs:s.size≤65535):(blq L s q last o).length≤(kp L s q.1 q.2).2+2:=by
 have h:=bkm_near (k:=(kp L s q.1 q.2).1) (L:=seg L q.1 q.2) (s:=s.extract (szt L q.1) (szt L q.2)) (last:=last) (o:=o) (kd_kind _ _) (by rw[ByteArray.size_extract];omega);unfold blq;have e:(kp L s q.1 q.2).2=b3 (seg L q.1 q.2) (s.extract (szt L q.1) (szt L q.2)) (kp L s q.1 q.2).1:=kd_bits _ _;rw[e];exact h
theorem prs_near{L:List Tk}{s:ByteArray}(hs:s.size≤65535):∀ (l:List (Nat×Nat)) (o:Nat),(prs L s l o).length≤pbits (kp L s) l+2*l.length
 |[],o=>by simp[prs,pbits]
 |q::r,o=>by
  have h1:=blq_near (L:=L) (q:=q) (last:=r.isEmpty) (o:=o) hs;have h2:=prs_near (L:=L) hs r (o+(blq L s q r.isEmpty o).length);simp only[prs,List.length_append,pbits,List.length_cons];omega
theorem kp_stored{L:List Tk}{s:ByteArray}{f t:Nat}(hft:f≤t)(hs:s.size≤65535):(kp L s f t).2≤40+8*(szt L t - szt L f):=by
 have h:=kd_least (seg L f t) (s.extract (szt L f) (szt L t)) (k:=0) (by omega);have hz:(s.extract (szt L f) (szt L t)).size≤szt L t - szt L f:=by rw[ByteArray.size_extract];omega
 have e:b3 (seg L f t) (s.extract (szt L f) (szt L t)) 0=3+pd 3+32+(s.extract (szt L f) (szt L t)).size*8:=by
  unfold b3;rw[bkm_blk (by rw[ByteArray.size_extract];omega)];unfold blk;rw[if_pos rfl,stb_length]
 have e2:pd 3=5:=rfl;unfold kp;omega
theorem cbits_stored{L:List Tk}{s:ByteArray}(hs:s.size≤65535)(c:Nat→Nat)(hc:∀i,c i≤c (i+1)):∀k,cbits (kp L s) c k≤40*k+8*(szt L (c k) - szt L (c 0))
 |0=>by simp[cbits]
 |k+1=>by
  have ih:=cbits_stored (L:=L) hs c hc k;have h:=kp_stored (L:=L) (s:=s) (hc k) hs;have h1:=szt_mono L (hc k)
  have h0:szt L (c 0)≤szt L (c k):=szt_mono L (by
   clear ih h h1
   induction k with
   |zero=>exact Nat.le_refl _
   |succ k ihk=>exact Nat.le_trans ihk (hc k))
  simp only[cbits];omega
theorem pts_length(L:List Tk)(s:ByteArray):(pts L s).length≤cnk L.length+1:=prt_length _ _ _
theorem prs_short{L:List Tk}{s:ByteArray}(hs:s.size≤65535):(prs L s (pts L s) 0).length≤42*(cnk L.length+1)+8*Tx.szs L:=by
 have h1:=prs_near (L:=L) hs (pts L s) 0;have h2:=pts_bits L s;have h3:=pts_length L s;have h4:=cbits_stored (L:=L) hs (cut L.length) (cut_mono L.length) (cnk L.length+1);rw[cut_end,cut_zero,szt_all (Nat.le_refl _),szt_zero] at h4;omega
def bnd(n:Nat):Nat:=if n=0 then 6 else n+6*((n - 1) /1024+1)+5*((n - 1) /65535)
theorem stored_short{s:ByteArray}(hs:s.size≤65535):((bkm 0 [] s true 0).length+7) /8=s.size+5:=by
 rw[bkm_blk hs];unfold blk;rw[if_pos rfl,stb_length];have:pd (0+3)=5:=rfl;omega
theorem sbt_short{L:List Tk}{s:ByteArray}{lv:Nat}(hs:s.size≤65535)(hl:L.length≤s.size)(hz:Tx.szs L=s.size):((sbt L s lv).length+7) /8≤bnd s.size:=by
 unfold sbt bnd;by_cases h0:lv=0
 · rw[if_pos h0,stored_short hs]
   split<;>omega
 · rw[if_neg h0]
   have h:=prs_short (L:=L) hs;rw[hz] at h;unfold cnk at h;have hc:(L.length - 1) /1024≤(s.size - 1) /1024:=Nat.div_le_div_right (by omega)
   split
   · rename_i e
     rw[e] at h hc;omega
   · omega
theorem bkm_some(k:Nat)(L:List Tk)(s:ByteArray)(last:Bool)(o:Nat)(hs:s.size≤65535):3≤(bkm k L s last o).length:=by
 rw[bkm_blk hs];unfold blk
 split
 · rw[stb_length];omega
 · split
   · rw[List.length_append,hdb_length];omega
   · rw[List.length_append,List.length_append,hdb_length];omega
theorem sbt_some{L:List Tk}{s:ByteArray}{lv:Nat}(hs:s.size≤65535):3≤(sbt L s lv).length:=by
 unfold sbt
 split
 · exact bkm_some _ _ _ _ _ hs
 · cases h:pts L s with
   |nil=>
    exfalso;unfold pts prt at h;simp at h
   |cons q r=>
    simp only[prs,List.length_append];have:=bkm_some (kp L s q.1 q.2).1 (seg L q.1 q.2) (s.extract (szt L q.1) (szt L q.2)) r.isEmpty 0 (by rw[ByteArray.size_extract];omega);unfold blq;omega
theorem szs_lits(s:ByteArray):∀n,Tx.szs (Px.Q.lits s n)=n:=fun n=>by
 unfold Px.Q.lits
 induction n with
 |zero=>rfl
 |succ n ih=>
  rw[List.range_succ,List.map_append,Tx.szs_append,ih]
  have:Tx.szs (List.map (Px.lit s) [n])=1:=by
   simp only[List.map_cons,List.map_nil,Tx.szs];rw[Tx.szo_byte (Px.lit_byte s n)]
  rw[this]
theorem szs_G(s:ByteArray)(r:Px.Lv)(k:Nat)(m:Nat×Nat)(hk:k≤s.size)(hm:m.1≠0→Px.Mt s k m):Tx.szs (Px.G s r k m)=s.size - k:=by
 induction k,m using Px.G.induct s r with
 |case1 k m hlt hz hq ih=>
  rw[Px.G_lit hlt hz hq];have h:=ih (by omega) (fun q=>absurd rfl q);simp only[Tx.szs];rw[h,Tx.szo_byte (Px.lit_byte s k)];omega
 |case2 k m hlt hz hq ih=>
  rw[Px.G_look hlt hz hq];exact ih hk (fun _=>(Px.mt_is hq).1)
 |case3 k m hlt hz hc hq ih=>
  rw[Px.G_stay hlt hz hc hq];have hv:=hm hz;have h:=ih hv.fits (fun q=>absurd rfl q);have hf:=hv.fits;simp only[Tx.szs];rw[h,Tx.szo_match (Px.mtk_match hv)];have:(Px.mtk m).n.toNat=m.1:=by show((m.1:Int)).toNat=m.1;omega
  omega
 |case4 k m hlt hz hc hq ih=>
  rw[Px.G_lazy hlt hz hc hq];have h:=ih (by omega) (fun _=>(Px.mt_is hq).1);simp only[Tx.szs];rw[h,Tx.szo_byte (Px.lit_byte s k)];omega
 |case5 k m hlt hz hc ih=>
  rw[Px.G_take hlt hz hc];have hv:=hm hz;have h:=ih hv.fits (fun q=>absurd rfl q);have hf:=hv.fits;simp only[Tx.szs];rw[h,Tx.szo_match (Px.mtk_match hv)];have:(Px.mtk m).n.toNat=m.1:=by show((m.1:Int)).toNat=m.1;omega
  omega
 |case6 k m hlt=>
  rw[Px.G_end (by omega)];show 0=_
  omega
end Go.Proofs.YtdpabanajgegjaaGreatDoor.V
namespace Go.Proofs.YtdpabanajgegjaaGreatDoor.V
open Go Go.RowKit
theorem u16_nat'{a:Int}(h:(Lit.int .u16 a).wf=true):∃n:Nat,a=n∧n≤65535:=by
 have hb:0≤a∧a≤65535:=by simpa [Lit.wf,IntKind.min,IntKind.max,IntKind.signed,IntKind.bits] using h
 exact⟨a.toNat,by omega,by omega⟩
theorem u8_nat'{a:Int}(h:(Lit.int .u8 a).wf=true):∃n:Nat,a=n∧n≤255:=by
 have hb:0≤a∧a≤255:=by simpa [Lit.wf,IntKind.min,IntKind.max,IntKind.signed,IntKind.bits] using h
 exact⟨a.toNat,by omega,by omega⟩
end Go.Proofs.YtdpabanajgegjaaGreatDoor.V
namespace Go.Proofs.YtdpabanajgegjaaGreatDoor.V
open Go Go.RowKit M U
noncomputable def dtk(d t:ByteArray)(k:Nat):List Tk:=if k=0 then Px.Q.lits t t.size else Px.G (Px.cutd d++t) (Px.Q.lv k) (Px.cutd d).size (0,0)
noncomputable def dbs(d t:ByteArray)(k:Nat):List Nat:=sbt (dtk d t k) t k
noncomputable def dby(d t:ByteArray)(k:Nat):ByteArray:=textR (nb (dbs d t k)) (dbs d t k).length
theorem textR_size(V L:Nat):(textR V L).size=(L+7) /8:=by
 unfold textR;rw[M.bstr_size,M.le_length]
theorem dby_size(d t:ByteArray)(k:Nat):(dby d t k).size=((dbs d t k).length+7) /8:=textR_size _ _
theorem dtk_size(d t:ByteArray)(k:Nat):Tx.szs (dtk d t k)=t.size:=by
 unfold dtk
 split
 · exact szs_lits t t.size
 · have h:=szs_G (Px.cutd d++t) (Px.Q.lv k) (Px.cutd d).size (0,0) (by rw[ByteArray.size_append];omega) (fun h=>absurd rfl h)
   rw[h,ByteArray.size_append];omega
theorem dtk_len(d t:ByteArray)(k:Nat):(dtk d t k).length≤t.size:=by
 unfold dtk
 split
 · rw[Px.Q.lits_length];exact Nat.le_refl _
 · have h:=Px.G_len (Px.cutd d++t) (Px.Q.lv k) (Px.cutd d).size (0,0) (fun h=>absurd rfl h)
   rw[ByteArray.size_append] at h;omega
theorem dby_short(d t:ByteArray)(k:Nat)(ht:t.size≤65535):(dby d t k).size≤bnd t.size∧1≤(dby d t k).size:=by
 rw[dby_size];refine⟨sbt_short ht (dtk_len d t k) (dtk_size d t k),?_⟩;have:=sbt_some (L:=dtk d t k) (lv:=k) ht;unfold dbs;omega
end Go.Proofs.YtdpabanajgegjaaGreatDoor.V
