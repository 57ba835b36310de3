import Derived.Test.YtdpabanajgegjaaGreatDoorEMT9Tok
import Derived.Lib.AppendStr
import Derived.Laws.IdiomCopy
namespace Go.Proofs.YtdpabanajgegjaaGreatDoor.I
set_option maxRecDepth 1000000
open Go Go.RowKit M
open Go.Lib (strCells)
set_option linter.unusedVariables false
set_option linter.unusedSimpArgs false
structure Ry(w:World)(g cp:Nat)(bs:List UInt8):Prop where
 nc:bs.length≤cp
 room:∀j,j<cp→(w.cell? ⟨g,j,none⟩).isSome=true
 free:∀j,j<cp→w.frozen? ⟨g,j,none⟩=false
 byte:∀j u,bs[j]? =some u→w.cell? ⟨g,j,none⟩=some (.int .u8 (u.toNat:Int))
 typ:∃c fz,w.heap[g]? =some (.cells c 5 fz)
section
variable {w w':World} {g cp:Nat} {bs:List UInt8}
theorem Ry.lt(h:Ry w g cp bs):g<w.heap.size:=by
 obtain⟨c,fz,e⟩:=h.typ;exact(Array.getElem?_eq_some_iff.1 e).1
theorem Ry.of_block(h:Ry w g cp bs)(e:w'.heap[g]? =w.heap[g]?):Ry w' g cp bs:=by
 have hc:∀j,w'.cell? ⟨g,j,none⟩=w.cell? ⟨g,j,none⟩:=fun j=>World.cell?_of_block (a:=⟨g,j,none⟩) e
 have hf:∀j,w'.frozen? ⟨g,j,none⟩=w.frozen? ⟨g,j,none⟩:=fun j=>World.frozen?_of_block (a:=⟨g,j,none⟩) e
 exact⟨h.nc,fun j hj=>by rw[hc];exact h.room j hj,fun j hj=>by rw[hf];exact h.free j hj,fun j u hu=>by rw[hc];exact h.byte j u hu,by obtain⟨c,fz,q⟩:=h.typ;exact⟨c,fz,e.trans q⟩⟩
theorem Ry.kept{S:Nat→Prop}(h:Ry w g cp bs)(hk:Kept S w w')(hS:¬S g):Ry w' g cp bs:=h.of_block (hk.block g h.lt hS)
theorem Ry.rb(h:Ry w g cp bs):V.Tx.Rb w g cp bs:=
 ⟨h.lt,h.nc,h.room,h.free,h.byte,fun o ho=>by obtain⟨c,fz,q⟩:=h.typ;rw[q] at ho;cases ho;rfl⟩
theorem Ry.other(h:Ry w g cp bs){x:Addr}(hx:g≠x.block)(u:Value):Ry (w.setCell x u) g cp bs:=h.of_block (Below.heap_setCell _ _ _ _ hx)
end
theorem Ry.of_own{w:World}{B n:Nat}{v:Value}{bs:List UInt8}(h:w.ownsRow B 5 1 v n (bs.map fun u=>Value.int .u8 (u.toNat:Int)))(hn:0<n):∃g cp,v=.slice (some ⟨g,0,none⟩) n cp∧bs.length=n∧B≤g∧Ry w g cp bs:=by
 obtain⟨g,cp,e1,e2,e3,e4⟩:=V.Tx.Rb.of_own h hn;refine⟨g,cp,e1,e2,e3,e4.nc,e4.room,e4.free,e4.byte,?_⟩;obtain⟨_,h2⟩:=h;rcases h2 with⟨rfl,_⟩|⟨g',cp',cur,rfl,hg,hh,_⟩
 · cases e1
 · injection e1 with e1 _ _
   injection e1 with e1
   injection e1 with e1
   subst e1;exact⟨cur,(0,0),hh⟩
theorem setCells_typ{w:World}{g:Nat}{t:TypeId}:∀ (vs:List Value) (o:Nat) (w:World),(∃c fz,w.heap[g]? =some (.cells c t fz))→∃c fz,(w.setCells g o vs).heap[g]? =some (.cells c t fz)
 |[],o,w,h=>h
 |v::vs,o,w,⟨c,fz,h⟩=>setCells_typ (w:=w) vs (o+1) (w.setCell ⟨g,o,none⟩ v) ⟨_,fz,by rw[setCell_eq_setRow w g o c t fz v h];exact setRow_heap w g c _ t fz h⟩
theorem setCells_frozen(g:Nat)(a:Addr):∀ (vs:List Value) (o:Nat) (w:World),(w.setCells g o vs).frozen? a=w.frozen? a
 |[],o,w=>rfl
 |v::vs,o,w=>(setCells_frozen g a vs (o+1) (w.setCell ⟨g,o,none⟩ v)).trans (World.frozen?_setCell _ _ _ _)
theorem setCells_grown(g:Nat):∀ (vs:List Value) (o:Nat) (w:World),w.grownBy (w.setCells g o vs) (some g)
 |[],o,w=>⟨rfl,rfl,rfl,Nat.le_refl _,fun _ _ _=>rfl⟩
 |v::vs,o,w=>by
  have h:=setCells_grown g vs (o+1) (w.setCell ⟨g,o,none⟩ v);exact⟨h.os,h.tape,h.output,Nat.le_trans (by simp[World.setCell]) h.size,fun k hk hne=>(h.block k (by simpa [World.setCell] using hk) hne).trans (Below.heap_setCell _ _ _ _ (fun e=>hne (by rw[e])))⟩
def vls(l:List UInt8):List Value:=l.map fun u=>Value.int .u8 (u.toNat:Int)
theorem Ry.put{w:World}{g cp:Nat}{bs:List UInt8}(h:Ry w g cp bs)(l:List UInt8)(hr:bs.length+l.length≤cp):Ry (w.setCells g bs.length (vls l)) g cp (bs++l):=by
 have hl:(vls l).length=l.length:=by unfold vls;rw[List.length_map]
 have hrm:∀j,j<(vls l).length→(w.cell? ⟨g,bs.length+j,none⟩).isSome=true:=fun j hj=>h.room _ (by omega)
 have hout:∀j,(j<bs.length∨bs.length+l.length≤j)→(w.setCells g bs.length (vls l)).cell? ⟨g,j,none⟩=w.cell? ⟨g,j,none⟩:=fun j hj=>
  World.cell?_setCells_out g (vls l) bs.length w ⟨g,j,none⟩ (fun _ _=>by rw[hl];exact hj)
 have hin:∀j (hj:j<(vls l).length),(w.setCells g bs.length (vls l)).cell? ⟨g,bs.length+j,none⟩=some (vls l)[j]:=World.cell?_setCells_in g (vls l) bs.length w hrm;refine⟨by rw[List.length_append];exact hr,fun j hj=> ?_,fun j hj=> ?_,fun j u hu=> ?_,setCells_typ (w:=w) _ _ _ h.typ⟩
 · by_cases q:j<bs.length∨bs.length+l.length≤j
   · rw[hout j q];exact h.room j hj
   · have:=hin (j - bs.length) (by omega)
     rw[show bs.length+(j - bs.length)=j by omega] at this;rw[this];rfl
 · rw[setCells_frozen];exact h.free j hj
 · by_cases q:j<bs.length
   · rw[hout j (.inl q)]
     rw[List.getElem?_append_left q] at hu;exact h.byte j u hu
   · rw[List.getElem?_append_right (by omega)] at hu
     have hj:j - bs.length<l.length:=(List.getElem?_eq_some_iff.1 hu).1;have:=hin (j - bs.length) (by omega);rw[show bs.length+(j - bs.length)=j by omega] at this;rw[this];congr 1;unfold vls;rw[List.getElem_map];rw[List.getElem?_eq_getElem hj] at hu;cases hu
     rfl
def Apd(w:World)(g:Nat)(bs:List UInt8)(v:Value)(w':World):Prop:=∃g' cp',v=.slice (some ⟨g',0,none⟩) bs.length cp'∧Ry w' g' cp' bs∧w.grownBy w' (some g)∧(g'=g∨w.heap.size≤g')
theorem run_ays(w:World)(ty:TypeId)(g n cp:Nat)(bs:List UInt8)(h:Ry w g cp bs)(hn:bs.length=n)(s:ByteArray)(hm:n+s.size≤10000000000):
 ∃v w',(Builtin.append_ #[23,9] ty #[.slice (some ⟨g,0,none⟩) n cp,.string s]).run Tryz.prog w=.ok v w'∧Apd w g (bs++s.data.toList) v w':=by
 subst hn;obtain⟨i,h1,h2,h3,h4⟩:=V.Tx.info_of V.Tx.byteInfo;have hsl:s.data.toList.length=s.size:=Array.length_toList;have hsc:strCells s=vls s.data.toList:=rfl;have hscl:(strCells s).length=s.size:=Lib.strCells_length s;by_cases hr:bs.length+s.size≤cp
 · have hf:=Lib.run_firstCells_string (P:= Tryz.prog) w 1 s
   have hst:=run_storeCells_cells (P:= Tryz.prog) g bs.length (strCells s) 0 w (fun j hj=>by rw[Nat.add_zero];exact h.room _ (by omega)) (fun j hj=>by rw[Nat.add_zero];exact h.free _ (by omega)) (Lib.strCells_oneCell s);simp only[Nat.add_zero] at hst
   have hrun:(Builtin.append_ #[23,9] ty #[.slice (some ⟨g,0,none⟩) bs.length cp,.string s]).run Tryz.prog w=.ok (.slice (some ⟨g,0,none⟩) (bs.length+s.size) cp) (w.setCells g bs.length (strCells s)):=by
    simp[Builtin.append_,run_underlying Tryz.underlying23,run_underlying Tryz.underlying9,sizeOf,typeInfo,h1,h3,Builtin.lenOf,hr,hf,Addr.add_lit,hst]
   refine⟨_,_,hrun,g,cp,by rw[List.length_append,hsl],?_,setCells_grown _ _ _ _,.inl rfl⟩;rw[hsc];exact h.put _ (by omega)
 · have hold:∀j v,(vls bs)[j]? =some v→w.cell? ((⟨g,0,none⟩:Addr).add j)=some v:=fun j v hv=>by
    rw[V.cadd_at,Nat.zero_add];unfold vls at hv;rw[List.getElem?_map] at hv;cases q:bs[j]? with
    |none=>rw[q] at hv;cases hv
    |some y=>rw[q] at hv;simp at hv;subst hv;exact h.byte j y q
   have hvl:(vls bs).length=bs.length:=by unfold vls;rw[List.length_map]
   have hrun:=Lib.run_append_grow_string (P:= Tryz.prog) w 23 9 ty 5 i (.int .u8 0) Tryz.underlying23 Tryz.underlying9 h1 h2 ⟨g,0,none⟩ bs.length cp (vls bs) (by rw[h3,hvl,Nat.mul_one]) hold s (by omega) (by omega) (by rw[h4];exact growslice_fits (by omega) (by omega));have hge:=grownCap_ge w (bs.length+s.size) cp 5;have hcm:grownCap w (bs.length+s.size) cp 5 ≤maxLen:=grownCap_le_maxLen w (bs.length+s.size) cp 5 (by unfold maxLen;omega);refine⟨_,_,hrun,w.heap.size,_,by rw[List.length_append,hsl],?_,⟨rfl,rfl,rfl,by simp,fun k hk _=>heap_alloc_old w.drew _ hk⟩,.inr (Nat.le_refl _)⟩
   have ho:(w.drew.alloc (.cells ((vls bs).toArray++(strCells s).toArray++Builtin.zeroCells (Value.int .u8 0).cells (grownCap w (bs.length+s.size) cp 5 - (bs.length+s.size))) 5)).ownsRow w.heap.size 5 1 (.slice (some ⟨w.heap.size,0,none⟩) (bs.length+s.size) (grownCap w (bs.length+s.size) cp 5)) (bs.length+s.size) (vls (bs++s.data.toList)):=by
    refine⟨by unfold vls;rw[List.length_map,List.length_append,hsl,Nat.mul_one],.inr ⟨w.heap.size,_,_,rfl,Nat.le_refl _,heap_alloc_new w.drew _,hge,hcm,?_,?_⟩⟩
    · have hz1:(Value.int IntKind.u8 0).cells.size=1:=rfl
      simp only[Array.size_append,List.size_toArray,size_zeroCells,hz1,hvl,hscl];omega
    · simp only[Array.toList_append,List.append_assoc]
      have e:vls (bs++s.data.toList)=vls bs++strCells s:=by rw[hsc];unfold vls;rw[List.map_append]
      rw[e,←List.append_assoc];have hlen:(vls bs++strCells s).length=(bs.length+s.size)*1:=by rw[List.length_append,hvl,hscl,Nat.mul_one]
      rw[←hlen];exact List.take_left
   by_cases h0:0<bs.length+s.size
   · obtain⟨g',cp',e1,_,_,e4⟩:=Ry.of_own ho h0
     injection e1 with e1 _ e5
     injection e1 with e1
     injection e1 with e1
     subst e1;subst e5;exact e4
   · exfalso;omega
theorem run_ay1(w:World)(ty:TypeId)(g n cp:Nat)(bs:List UInt8)(h:Ry w g cp bs)(hn:bs.length=n)(ad:Addr)(c:Nat)(u:UInt8)(hx:w.cell? ad=some (.int .u8 (u.toNat:Int)))(hm:n≤1000000000):
 ∃v w',(Builtin.append_ #[23,23] ty #[.slice (some ⟨g,0,none⟩) n cp,.slice (some ad) 1 c]).run Tryz.prog w=.ok v w'∧Apd w g (bs++[u]) v w':=by
 subst hn;obtain⟨i,h1,h2,h3,h4⟩:=V.Tx.info_of V.Tx.byteInfo
 have hnews:∀j v,(vls [u])[j]? =some v→w.cell? (ad.add j)=some v:=by
  intro j v hv
  match j,hv with
  |0,hv=>simp[vls] at hv;subst hv;simpa [Addr.add] using hx
 have h1c:∀v∈vls [u],v.oneCell'=true:=by intro v hv;simp[vls] at hv;subst hv;rfl
 by_cases hr:bs.length+1≤cp
 · have hrun:=run_append_room_cells (P:= Tryz.prog) w 23 ty 5 i Tryz.underlying23 h1 g 0 bs.length cp ad 1 c (vls [u]) (by rw[h3];rfl) hnews h1c hr
    (fun j hj=>by simp[vls] at hj;subst hj;exact h.room _ (by rw[h3];omega)) (fun j hj=>by simp[vls] at hj;subst hj;exact h.free _ (by rw[h3];omega))
   rw[h3,Nat.zero_add,Nat.mul_one] at hrun;exact⟨_,_,hrun,g,cp,by simp,h.put [u] (by simpa using hr),setCells_grown _ _ _ _,.inl rfl⟩
 · have hold:∀j v,(vls bs)[j]? =some v→w.cell? ((⟨g,0,none⟩:Addr).add j)=some v:=fun j v hv=>by
    rw[V.cadd_at,Nat.zero_add];unfold vls at hv;rw[List.getElem?_map] at hv;cases q:bs[j]? with
    |none=>rw[q] at hv;cases hv
    |some y=>rw[q] at hv;simp at hv;subst hv;exact h.byte j y q
   obtain⟨v',w',hrun,r1,r2⟩:=run_append_arg_grows (P:= Tryz.prog) w 23 ty 5 i (.int .u8 0) 1 1 Tryz.underlying23 h1 h2 h3 h4 rfl (by decide) ⟨g,0,none⟩ bs.length cp (vls bs) (by simp[vls]) hold ad 1 c (vls [u]) (by simp[vls]) hnews (by omega) (by unfold maxLen;omega) (by omega);have e:vls bs++vls [u]=vls (bs++[u]):=by unfold vls;rw[List.map_append]
   rw[e] at r1;obtain⟨g',cp',rfl,_,hg,hR⟩:=Ry.of_own r1 (by omega);exact⟨_,w',hrun,g',cp',by simp,hR,⟨r2.os,r2.tape,r2.output,r2.size,fun k hk _=>r2.block k hk (by simp)⟩,.inr hg⟩
theorem run_by(w:World)(s:ByteArray)(hs:s.size≤100000000):∃cp W',(convert 9 23 (.string s)).run Tryz.prog w=.ok (.slice (some ⟨w.heap.size,0,none⟩) s.size cp) W'∧Ry W' w.heap.size cp s.data.toList∧Below w.heap.size w W'∧W'.heap.size=w.heap.size+1:=by
 obtain⟨cp,W',h1,h2,h3,h4⟩:=V.Tx.run_bytes w s hs;have e:=Lib.run_convert_string_bytes (P:= Tryz.prog) w 9 23 5 s Tryz.underlying9 Tryz.underlying23 Tryz.underlying5;have e2:=h1.symm.trans e;injection e2 with _ e3
 subst e3;exact⟨cp,_,h1,⟨h2.nc,h2.room,h2.free,h2.byte,_,_,Lib.bytesWorld_at_new w 5 s⟩,h3,h4⟩
end Go.Proofs.YtdpabanajgegjaaGreatDoor.I
