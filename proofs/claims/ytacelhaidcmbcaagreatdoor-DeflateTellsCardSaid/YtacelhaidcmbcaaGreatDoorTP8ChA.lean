import Derived.Test.YtacelhaidcmbcaaGreatDoorTMP8Ent
import Derived.Test.YtacelhaidcmbcaaGreatDoorTMP8Cpy
import Derived.WalkKit
import Derived.Lib.Hide
import Derived.Outline
import Derived.Deep.RegionLaw
import Derived.RegionTactic
import Derived.BigRegion
import Derived.BigQuiet
import Derived.Deep.QuietTactic
import Derived.ChangeAlike
import Derived.Laws.Cells
import Derived.WalkSpells
import Derived.WalkMore
import Derived.IntWalk
set_option maxHeartbeats 8000000
set_option maxRecDepth 1000000
namespace Go.Proofs.YtacelhaidcmbcaaGreatDoor.V.Px
open Go.Lib (hid)
open Go Go.RowKit M
open Go.ChangeShapes (lits)
set_option linter.unusedVariables false
set_option linter.unusedSimpArgs false
theorem z1q(p m:Nat)(w:World)(hc:w.cell? ⟨p,2,none⟩=some (.map (some m))):
 Calls Tryz.prog 115 #[.pointer (some ⟨p,0,none⟩)] w fun e w'=>e=.returned (.bool true)∧w=w':=by
 have qT:∀ (w:World) (r:Option Nat),(binOp .neq 143 (.map r) (.map none)).run Tryz.prog w=.ok (.bool (!r.isNone)) w:=fun w r=>run_neq_map_nil w _ _ _ r Tryz.underlying143
 go_enter Tryz.func115,Tryz.ntmps115;go_wp2;go_ret;exact⟨rfl,rfl⟩
theorem Fd.made{X:World}{F b:Nat}{s:ByteArray}(hF:X.heap[F]? =some (.cells #[Value.string s,Value.int IntKind.i64 (-1),Value.map (some b)] 145 (0,0)))(hb:X.heap[b]? =some (.map #[] 0))(h1:b<F)(h2:F+1≤X.heap.size)(hs:s.size≤1048576){B:Nat}(hB:B≤b):Fd X B F s [] (lst []):=
 {c0:=by simp[World.cell?,hF],c1:=by simp[World.cell?,hF,zgu],fz:=by simp[World.frozen?,hF],
  own:=⟨b,F+1,.map [],by simp[World.cell?,hF],⟨#[],0,hb,⟨by simp,MapKept.stamped_empty 0,by simp⟩,qR,rfl,by omega,by simp,by simp⟩,Dic.empty,by omega,h2,by omega,hB⟩,base:=by omega,
  rise:=List.Pairwise.nil,most:=(fun p hp=>by cases hp),len:=hs}
theorem new_any(s:ByteArray)(w:World)(hs:s.size≤1048576):
 Calls Tryz.prog 37 #[.string s] w fun e w'=> ∃F,e=.returned (.pointer (some ⟨F,0,none⟩))∧w.heap.size≤F∧Fd w' w.heap.size F s [] (-1)∧Below w.heap.size w w':=by
 have hmm:= @run_makeMap Tryz.prog;go_enter Tryz.func37,Tryz.ntmps37;go_wp2;go_ret;have hb0:(w.alloc (Obj.map #[] 0)).heap[w.heap.size]? =some (.map #[] 0):=heap_alloc_new w _
 have hb:((w.alloc (Obj.map #[] 0)).alloc (Obj.cells #[Value.string s,Value.int IntKind.i64 (-1),Value.map (some w.heap.size)] 145)).heap[w.heap.size]? =some (.map #[] 0):=
  (Below.heap_alloc (w.alloc (Obj.map #[] 0)) _ w.heap.size (by simp)).trans hb0
 have hF:((w.alloc (Obj.map #[] 0)).alloc (Obj.cells #[Value.string s,Value.int IntKind.i64 (-1),Value.map (some w.heap.size)] 145)).heap[w.heap.size+1]? =some (.cells #[Value.string s,Value.int IntKind.i64 (-1),Value.map (some w.heap.size)] 145 (0,0)):=by
  have:=heap_alloc_new (w.alloc (Obj.map #[] 0)) (.cells #[Value.string s,Value.int IntKind.i64 (-1),Value.map (some w.heap.size)] 145)
  simpa using this
 exact⟨w.heap.size+1,rfl,by omega,Fd.made hF hb (by omega) (by simp) hs qR,(qL).alloc (by simp) _⟩
theorem zdL{B F:Nat}{s:ByteArray}{L:List Nat}{la:Int}{w:World}(H:Fd w B F s L la):
 Calls Tryz.prog 88 #[.pointer (some ⟨F,0,none⟩)] w fun e w'=>e=.returned (.int .i64 la)∧w=w':=by
 have h1:=H.c1;obtain⟨b,base,D,h2,_⟩:=H.own;have HM:=hid (z1q F b w h2);go_enter Tryz.func88,Tryz.ntmps88;go_wp2_with (go_at_call 115;refine HM.out.mono ?_;rintro e w' ⟨rfl,rfl⟩);go_ret;exact⟨rfl,rfl⟩
section
variable {B F:Nat} {s:ByteArray} {L:List Nat} {la:Int} {w:World}
theorem z5E(H:Fd w B F s L la)(x:Int)(hx:x<0):
 Calls Tryz.prog 116 #[.pointer (some ⟨F,0,none⟩),.int .i64 x] w fun e w'=>e=.returned (.tuple #[.agg #[.int .u8 0,.int .u8 0,.int .u8 0],.bool false])∧Below w.heap.size w w':=by
 have h0:=H.c0;obtain⟨b,base,D,h2,_⟩:=H.own;have h2':=(((Below.refl w.heap.size w).alloc qR (.cells #[.int .u8 0,.int .u8 0,.int .u8 0] 207)).cell (qB h2)).trans h2;have HM:=hid (z1q F b _ h2');clear h2 h2';go_enter Tryz.func116,Tryz.ntmps116;go_wp2_with (go_at_call 115;refine HM.out.mono ?_;rintro e w' ⟨rfl,rfl⟩);exact bodyPost_ret (v:=.tuple #[.agg #[.int .u8 0,.int .u8 0,.int .u8 0],.bool false]) (by simp[results,Tryz.results116,go_sem]) rfl ⟨rfl,qL⟩
theorem z40(H:Fd w B F s L la)(x:Int)(hx:(s.size:Int) - 3<x):
 Calls Tryz.prog 116 #[.pointer (some ⟨F,0,none⟩),.int .i64 x] w fun e w'=>e=.returned (.tuple #[.agg #[.int .u8 0,.int .u8 0,.int .u8 0],.bool false])∧Below w.heap.size w w':=by
 by_cases hx0:x<0
 · exact z5E H x hx0
 have h0:=H.c0;have hl:=H.len;obtain⟨b,base,D,h2,_⟩:=H.own;have h2':=(((Below.refl w.heap.size w).alloc qR (.cells #[.int .u8 0,.int .u8 0,.int .u8 0] 207)).cell (qB h2)).trans h2;have HM:=hid (z1q F b _ h2');clear h2 h2';have hF:=H.lt;have hx1:0≤x:=by omega
 clear hx0;go_enter Tryz.func116,Tryz.ntmps116;go_wp2_with (go_at_call 115;refine HM.out.mono ?_;rintro e w' ⟨rfl,rfl⟩);exact bodyPost_ret (v:=.tuple #[.agg #[.int .u8 0,.int .u8 0,.int .u8 0],.bool false]) (by simp[results,Tryz.results116,go_sem]) rfl ⟨rfl,qL⟩
theorem three(s:ByteArray)(k:Nat)(hk:k+3≤s.size):
 Lib.byteCells ((s.extract k s.size).data.toList.take 3)++[Value.int .u8 0,.int .u8 0,.int .u8 0].drop (0+3)=[.int .u8 (byt s k),.int .u8 (byt s (k+1)),.int .u8 (byt s (k+2))]:=by
 have e1:(s.extract k s.size).data.toList=s.data.toList.drop k:=by
  rw[ByteArray.data_extract,Array.toList_extract,List.extract_eq_take_drop,List.take_of_length_le];rw[List.length_drop];simp
 have hl:s.data.toList.length=s.size:=by simp
 rw[e1];unfold byt;generalize s.data.toList=l at hl
 have e2:(l.drop k).take 3=[l.getD k 0,l.getD (k+1) 0,l.getD (k+2) 0]:=by
  apply List.ext_getElem?
  intro i;by_cases c:i<3
  · rw[List.getElem?_take,if_pos c,List.getElem?_drop]
    have h3:k+i<l.length:=by omega
    have:i=0∨i=1∨i=2:=by omega
    rcases this with rfl|rfl|rfl<;>simp[List.getD,qE h3]
    · simp[qE (show k<l.length by omega)]
  · rw[List.getElem?_take,if_neg c,List.getElem?_eq_none (by simp;omega)]
 rw[e2];simp[Lib.byteCells]
structure Thr(w w2:World)(x0 x1 x2:Int):Prop where
 d0:w2.cell? ⟨w.heap.size+1,0,none⟩=some (.int .u8 x0)
 d1:w2.cell? ⟨w.heap.size+1,1,none⟩=some (.int .u8 x1)
 d2:w2.cell? ⟨w.heap.size+1,2,none⟩=some (.int .u8 x2)
 out:w2.heap[w.heap.size]? =some (.cells #[.int .u8 0,.int .u8 0,.int .u8 0] 207 (0,0))
 kept:Kept NoB w w2
theorem z8R(w:World)(q:Nat)(s:ByteArray)(hq:q+3≤s.size):
 ∃W2,(Builtin.copy_ #[40,9] 3 #[.slice (some ⟨w.heap.size+1,0,none⟩) 3 3,.string (s.extract q s.size)]).run Tryz.prog
  ((w.alloc (.cells #[.int .u8 0,.int .u8 0,.int .u8 0] 207)).alloc (.cells #[.int .u8 0,.int .u8 0,.int .u8 0] 207)).drew=.ok (goInt 3) W2∧
  Thr w W2 (byt s q) (byt s (q+1)) (byt s (q+2)):=by
 have h8:=three s q hq
 have hm:(3:Nat)=Nat.min (s.extract q s.size).size 3:=by
  have:(s.extract q s.size).size=s.size - q:=by simp
  rw[this];exact(Nat.min_eq_right (by omega)).symm
 obtain⟨W,hW⟩:∃W,W=((w.alloc (.cells #[.int .u8 0,.int .u8 0,.int .u8 0] 207)).alloc (.cells #[.int .u8 0,.int .u8 0,.int .u8 0] 207)).drew:=⟨_,rfl⟩
 have hsz:(w.alloc (.cells #[.int .u8 0,.int .u8 0,.int .u8 0] 207)).heap.size=w.heap.size+1:=by simp
 have hh:W.heap[w.heap.size+1]? =some (.cells #[.int .u8 0,.int .u8 0,.int .u8 0] 207 (0,0)):=by
  rw[hW,←hsz];exact heap_alloc_new _ _
 have hh0:W.heap[w.heap.size]? =some (.cells #[.int .u8 0,.int .u8 0,.int .u8 0] 207 (0,0)):=by
  rw[hW];refine(Below.heap_alloc (w.alloc (.cells #[.int .u8 0,.int .u8 0,.int .u8 0] 207)) _ w.heap.size (by omega)).trans ?_
  exact heap_alloc_new _ _
 have hk:Kept NoB w W:=by rw[hW];exact(((Kept.refl NoB w).alloc _).alloc _).drew
 rw[←hW];clear hW
 have g:=z1x (P:= Tryz.prog) W 40 9 3 5 (w.heap.size+1) 0 3 3 3 (s.extract q s.size) _ 207 Tryz.underlying40 (by kernel_rfl) hh hm (by
  show 0+3≤3;omega)
 rw[show(#[Value.int .u8 0,.int .u8 0,.int .u8 0]:Array Value).toList=[Value.int .u8 0,.int .u8 0,.int .u8 0] from rfl,List.take_zero,List.nil_append,h8] at g;refine⟨_,g,?_⟩;have hc:=fun j=>cell_setRow_same W (w.heap.size+1) j _ ([Value.int .u8 (byt s q),Value.int .u8 (byt s (q+1)),Value.int .u8 (byt s (q+2))].toArray) _ _ hh
 exact⟨hc 0,hc 1,hc 2,(setRow_other _ _ _ _ (by omega)).trans hh0,hk.setRow _ (.inr (by omega)) _⟩
theorem z4F{w:World}{a:Addr}{u v:Value}(h:w.cell? a=some u):(w.setCell a v).cell? a=some v:=World.cell?_setCell_same' w a v (by rw[h];rfl)
theorem z33{w:World}{p i j:Nat}{v:Value}(h:i≠j):(w.setCell ⟨p,i,none⟩ v).cell? ⟨p,j,none⟩=w.cell? ⟨p,j,none⟩:=World.cell?_setCell_other w _ _ _ (fun e=>h (by injection e))
theorem z31(H:Fd w B F s L la)(k:Nat)(hk:k+3≤s.size):
 Calls Tryz.prog 116 #[.pointer (some ⟨F,0,none⟩),.int .i64 k] w fun e w'=>e=.returned (.tuple #[z6n (byt s k) (byt s (k+1)) (byt s (k+2)),.bool true])∧Below w.heap.size w w':=by
 have h0:=H.c0;have hl:=H.len;obtain⟨b,base,D,h2,_⟩:=H.own;have h2':=(((Below.refl w.heap.size w).alloc qR (.cells #[.int .u8 0,.int .u8 0,.int .u8 0] 207)).cell (qB h2)).trans h2;have HM:=hid (z1q F b _ h2');obtain⟨W2,hr,hN⟩:=z8R w k s hk;obtain⟨x0,q0⟩:∃x,byt s k=x:=⟨_,rfl⟩
 obtain⟨x1,q1⟩:∃x,byt s (k+1)=x:=⟨_,rfl⟩
 obtain⟨x2,q2⟩:∃x,byt s (k+2)=x:=⟨_,rfl⟩
 rw[q0,q1,q2] at hN ⊢;clear q0 q1 q2;have HC:=hid hr;have HN:=hid hN;have hF:=H.lt;have hx:¬((s.size:Int) - 3<(k:Int)):=by omega
 have hx1:decide ((s.size:Int) - 3<(k:Int))=false:=qF hx;have hk1:k≤s.size:=by omega
 clear h2 h2' hr hN;go_enter Tryz.func116,Tryz.ntmps116;go_wp2_with (go_at_call 115;refine HM.out.mono ?_;rintro e w' ⟨rfl,rfl⟩)
 go_region_law (refine z30 rfl _ _ _ _ rfl _ _ rfl rfl HC.out ?_)
 all_goals
  have d0:=HN.out.d0;have d1:=HN.out.d1;have d2:=HN.out.d2;have e0:W2.cell? ⟨w.heap.size,0,none⟩=some (.int .u8 0):=by have:=HN.out.out;simp[World.cell?,this]
  have f0:W2.frozen? ⟨w.heap.size,0,none⟩=false:=by have:=HN.out.out;simp[World.frozen?,this]
  have e1:W2.cell? ⟨w.heap.size,1,none⟩=some (.int .u8 0):=by have:=HN.out.out;simp[World.cell?,this]
  have f1:W2.frozen? ⟨w.heap.size,1,none⟩=false:=by have:=HN.out.out;simp[World.frozen?,this]
  have e2:W2.cell? ⟨w.heap.size,2,none⟩=some (.int .u8 0):=by have:=HN.out.out;simp[World.cell?,this]
  have f2:W2.frozen? ⟨w.heap.size,2,none⟩=false:=by have:=HN.out.out;simp[World.frozen?,this]
  clear h0;have HK:=hid HN.out.kept;clear HN HC;go_wp2_with fail;have g0:(W2.setCell ⟨w.heap.size,0,none⟩ (.int .u8 x0)).cell? ⟨w.heap.size,0,none⟩=some (.int .u8 x0):=z4F e0;have g1:((W2.setCell ⟨w.heap.size,0,none⟩ (.int .u8 x0)).setCell ⟨w.heap.size,1,none⟩ (.int .u8 x1)).cell? ⟨w.heap.size,1,none⟩=some (.int .u8 x1):=z4F ((z33 (by decide)).trans e1);have g2:(((W2.setCell ⟨w.heap.size,0,none⟩ (.int .u8 x0)).setCell ⟨w.heap.size,1,none⟩ (.int .u8 x1)).setCell ⟨w.heap.size,2,none⟩ (.int .u8 x2)).cell? ⟨w.heap.size,2,none⟩=some (.int .u8 x2):=z4F ((z33 (by decide)).trans ((z33 (by decide)).trans e2));refine bodyPost_ret (v:=.tuple #[z6n x0 x1 x2,.bool true]) (by simp[results,z6n,Tryz.results116,go_sem,g0,g1,g2]) rfl ⟨rfl,?_⟩;exact((((HK.out.setCell ⟨w.heap.size,0,none⟩ (.inr qR) (.int .u8 x0)).setCell ⟨w.heap.size,1,none⟩ (.inr qR) (.int .u8 x1)).setCell ⟨w.heap.size,2,none⟩ (.inr qR) (.int .u8 x2))).below qR (fun j hj=>hj.elim)
end
end Go.Proofs.YtacelhaidcmbcaaGreatDoor.V.Px
