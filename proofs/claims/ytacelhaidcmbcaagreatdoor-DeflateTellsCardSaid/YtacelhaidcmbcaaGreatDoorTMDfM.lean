/- Texts of one place, one behind the other: DfM, Tbx. -/
import Derived.Test.YtacelhaidcmbcaaGreatDoorTMSpK
import Derived.Test.YtacelhaidcmbcaaGreatDoorTMP8TkK
import Derived.Test.YtacelhaidcmbcaaGreatDoorTTbs
import Derived.Test.YtacelhaidcmbcaaGreatDoorTP8Lvl
set_option linter.unusedVariables false
set_option linter.unusedSimpArgs false
namespace Go.Proofs.YtacelhaidcmbcaaGreatDoor.V
open Go Go.RowKit M U
noncomputable def blq(L:List Tk)(s:ByteArray)(q:Nat×Nat)(last:Bool)(o:Nat):List Nat:=bkm (kp L s q.1 q.2).1 (seg L q.1 q.2) (s.extract (szt L q.1) (szt L q.2)) last o
noncomputable def prs(L:List Tk)(s:ByteArray):List (Nat×Nat)→Nat→List Nat
 |[],_=> []
 |q::r,o=>blq L s q r.isEmpty o++prs L s r (o+(blq L s q r.isEmpty o).length)
noncomputable def sbt(L:List Tk)(s:ByteArray)(lv:Nat):List Nat:=if lv=0 then bkm 0 [] s true 0 else prs L s (pts L s) 0
theorem zek{k:Nat}{L:List Tk}{s:ByteArray}{last:Bool}{o:Nat}(hk:k≤2)(hs:s.size≤65535):(bkm k L s last o).length≤b3 L s k+2:=by
 unfold b3;rw[z0N hs,z0N hs];have hc:k=0∨k=1∨k=2:=by omega
 rcases hc with rfl|rfl|rfl
 · unfold blk
   rw[if_pos rfl,if_pos rfl,z07,z07];unfold pd;omega
 · unfold blk
   rw[if_neg (by decide),if_pos rfl,if_neg (by decide),if_pos rfl,qA,qA,z04,z04];omega
 · unfold blk
   rw[if_neg (by decide),if_neg (by decide),if_neg (by decide),if_neg (by decide),qA,qA,qA,qA,z04,z04];omega
theorem zeg{L:List Tk}{s:ByteArray}{q:Nat×Nat}{last:Bool}{o:Nat}(hs:s.size≤65535):(blq L s q last o).length≤(kp L s q.1 q.2).2+2:=by
 have h:=zek (k:=(kp L s q.1 q.2).1) (L:=seg L q.1 q.2) (s:=s.extract (szt L q.1) (szt L q.2)) (last:=last) (o:=o) (z53 _ _) (by rw[ByteArray.size_extract];omega);unfold blq;have e:(kp L s q.1 q.2).2=b3 (seg L q.1 q.2) (s.extract (szt L q.1) (szt L q.2)) (kp L s q.1 q.2).1:=z6R _ _;rw[e];exact h
theorem z7J{L:List Tk}{s:ByteArray}(hs:s.size≤65535):∀ (l:List (Nat×Nat)) (o:Nat),(prs L s l o).length≤z1y (kp L s) l+2*l.length
 |[],o=>by simp[prs,z1y]
 |q::r,o=>by
  have h1:=zeg (L:=L) (q:=q) (last:=r.isEmpty) (o:=o) hs;have h2:=z7J (L:=L) hs r (o+(blq L s q r.isEmpty o).length);simp only[prs,qA,z1y,qC];omega
theorem zbl{L:List Tk}{s:ByteArray}{f t:Nat}(hft:f≤t)(hs:s.size≤65535):(kp L s f t).2≤40+8*(szt L t - szt L f):=by
 have h:=zdQ (seg L f t) (s.extract (szt L f) (szt L t)) (k:=0) (by omega);have hz:(s.extract (szt L f) (szt L t)).size≤szt L t - szt L f:=by rw[ByteArray.size_extract];omega
 have e:b3 (seg L f t) (s.extract (szt L f) (szt L t)) 0=3+pd 3+32+(s.extract (szt L f) (szt L t)).size*8:=by
  unfold b3;rw[z0N (by rw[ByteArray.size_extract];omega)];unfold blk;rw[if_pos rfl,z07]
 have e2:pd 3=5:=rfl;unfold kp;omega
theorem z2w{L:List Tk}{s:ByteArray}(hs:s.size≤65535)(c:Nat→Nat)(hc:∀i,c i≤c (i+1)):∀k,z3R (kp L s) c k≤40*k+8*(szt L (c k) - szt L (c 0))
 |0=>by simp[z3R]
 |k+1=>by
  have ih:=z2w (L:=L) hs c hc k;have h:=zbl (L:=L) (s:=s) (hc k) hs;have h1:=z0w L (hc k)
  have h0:szt L (c 0)≤szt L (c k):=z0w L (by
   clear ih h h1
   induction k with
   |zero=>exact qR
   |succ k ihk=>exact qK ihk (hc k))
  simp only[z3R];omega
theorem z4a(L:List Tk)(s:ByteArray):(pts L s).length≤cnk L.length+1:=z0Z _ _ _
theorem zaA{L:List Tk}{s:ByteArray}(hs:s.size≤65535):(prs L s (pts L s) 0).length≤42*(cnk L.length+1)+8*Tx.szs L:=by
 have h1:=z7J (L:=L) hs (pts L s) 0;have h2:=zdg L s;have h3:=z4a L s;have h4:=z2w (L:=L) hs (cut L.length) (z1b L.length) (cnk L.length+1);rw[z75,z1s,z2c qR,z1Q] at h4;omega
def bnd(n:Nat):Nat:=if n=0 then 6 else n+6*((n - 1) /1024+1)+5*((n - 1) /65535)
theorem z5C{s:ByteArray}(hs:s.size≤65535):((bkm 0 [] s true 0).length+7) /8=s.size+5:=by
 rw[z0N hs];unfold blk;rw[if_pos rfl,z07];have:pd (0+3)=5:=rfl;omega
theorem zdf(s:ByteArray):pts [] s=[(0,0)]:=zay [] s (by simp)
theorem za5{L:List Tk}{s:ByteArray}{lv:Nat}(hs:s.size≤65535)(hl:L.length≤s.size)(hz:Tx.szs L=s.size):((sbt L s lv).length+7) /8≤bnd s.size:=by
 unfold sbt bnd;by_cases h0:lv=0
 · rw[if_pos h0,z5C hs]
   split<;>omega
 · rw[if_neg h0]
   have h:=zaA (L:=L) hs;rw[hz] at h;unfold cnk at h;have hc:(L.length - 1) /1024≤(s.size - 1) /1024:=Nat.div_le_div_right (by omega)
   split
   · rename_i e
     rw[e] at h hc;omega
   · omega
theorem z8q(k:Nat)(L:List Tk)(s:ByteArray)(last:Bool)(o:Nat)(hs:s.size≤65535):3≤(bkm k L s last o).length:=by
 rw[z0N hs];unfold blk
 split
 · rw[z07];omega
 · split
   · rw[qA,z04];omega
   · rw[qA,qA,z04];omega
theorem zcZ{L:List Tk}{s:ByteArray}{lv:Nat}(hs:s.size≤65535):3≤(sbt L s lv).length:=by
 unfold sbt
 split
 · exact z8q _ _ _ _ _ hs
 · cases h:pts L s with
   |nil=>
    exfalso;unfold pts prt at h;simp at h
   |cons q r=>
    simp only[prs,qA];have:=z8q (kp L s q.1 q.2).1 (seg L q.1 q.2) (s.extract (szt L q.1) (szt L q.2)) r.isEmpty 0 (by rw[ByteArray.size_extract];omega);unfold blq;omega
theorem zcL(s:ByteArray):∀n,Tx.szs (Px.Q.lits s n)=n:=fun n=>by
 unfold Px.Q.lits
 induction n with
 |zero=>rfl
 |succ n ih=>
  rw[List.range_succ,List.map_append,Tx.szs_append,ih]
  have:Tx.szs (List.map (Px.lit s) [n])=1:=by
   simp only[List.map_cons,List.map_nil,Tx.szs];rw[Tx.szo_byte (Px.lit_byte s n)]
  rw[this]
theorem ziO(s:ByteArray)(r:Px.Lv)(k:Nat)(m:Nat×Nat)(hk:k≤s.size)(hm:m.1≠0→Px.Mt s k m):Tx.szs (Px.G s r k m)=s.size - k:=by
 induction k,m using Px.G.induct s r with
 |case1 k m hlt hz hq ih=>
  rw[Px.G_lit hlt hz hq];have h:=ih (by omega) (fun q=>absurd rfl q);simp only[Tx.szs];rw[h,Tx.szo_byte (Px.lit_byte s k)];omega
 |case2 k m hlt hz hq ih=>
  rw[Px.G_look hlt hz hq];exact ih hk (fun _=>(Px.mt_is hq).1)
 |case3 k m hlt hz hc hq ih=>
  rw[Px.G_stay hlt hz hc hq];have hv:=hm hz;have h:=ih hv.fits (fun q=>absurd rfl q);have hf:=hv.fits;simp only[Tx.szs];rw[h,Tx.szo_match (Px.mtk_match hv)];have:(Px.mtk m).n.toNat=m.1:=by show((m.1:Int)).toNat=m.1;omega
  omega
 |case4 k m hlt hz hc hq ih=>
  rw[Px.G_lazy hlt hz hc hq];have h:=ih (by omega) (fun _=>(Px.mt_is hq).1);simp only[Tx.szs];rw[h,Tx.szo_byte (Px.lit_byte s k)];omega
 |case5 k m hlt hz hc ih=>
  rw[Px.G_take hlt hz hc];have hv:=hm hz;have h:=ih hv.fits (fun q=>absurd rfl q);have hf:=hv.fits;simp only[Tx.szs];rw[h,Tx.szo_match (Px.mtk_match hv)];have:(Px.mtk m).n.toNat=m.1:=by show((m.1:Int)).toNat=m.1;omega
  omega
 |case6 k m hlt=>
  rw[Px.G_end (by omega)];show 0=_
  omega
end Go.Proofs.YtacelhaidcmbcaaGreatDoor.V
namespace Go.Proofs.YtacelhaidcmbcaaGreatDoor.V
open Go Go.RowKit
def Tabx(w:World):Prop:=Px.Lvs w∧z5p w
theorem Tabx.keep{w w':World}(h:Tabx w)(hb:Below w.heap.size w w'):Tabx w':=⟨h.1.below hb qR,h.2.keep hb⟩
theorem tabx_of_laid{W:World}{laid:List (String×DataW Unit)}(hl:laid=[("platen/parse.levels",Rows.laid_platen_parse_levels),("platen/runs.says",Rows.laid_platen_runs_says),("platen/symbol.lengths",Rows.laid_platen_symbol_lengths),("platen/symbol.distances",Rows.laid_platen_symbol_distances)])(h:laidMet Tryz.prog laid W):Tabx W:=by
 subst hl;exact⟨Px.lvs_of_laid rfl (h.filter fun x=>x.1== "platen/parse.levels"),z5z rfl (h.filter fun x=>x.1 != "platen/parse.levels")⟩
end Go.Proofs.YtacelhaidcmbcaaGreatDoor.V
