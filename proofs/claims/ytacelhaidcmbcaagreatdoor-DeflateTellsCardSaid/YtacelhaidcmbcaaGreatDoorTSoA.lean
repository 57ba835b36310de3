import Derived.Test.YtacelhaidcmbcaaGreatDoorProg
import Derived.Test.YtacelhaidcmbcaaGreatDoorTMMathT
import Derived.WalkKit
import Derived.Lib.Hide
import Derived.RegionTactic
import Derived.BigRegion
import Derived.IntWalk
namespace Go.Proofs.YtacelhaidcmbcaaGreatDoor
open Go.Lib (hid)
open Go.RowKit M
set_option linter.unusedVariables false
def cmv(x y:Nat):Int:=if x<y then -1 else if y<x then 1 else 0
theorem z6K(x:Nat)(w:World):Calls Tryz.prog 180 #[.int .u64 x] w fun e w'=>e=.returned (.bool false)∧w=w':=by
 go_enter Tryz.func180,Tryz.ntmps180;go_wp2;go_ret;exact⟨by simp,rfl⟩
theorem zgO(x y:Nat)(w:World):Calls Tryz.prog 164 #[.int .u64 x,.int .u64 y] w fun e w'=>e=.returned (.int .i64 (cmv x y))∧w=w':=by
 by_cases h1:x<y
 · have hv:=hid (show cmv x y= -1 by unfold cmv;rw[if_pos h1])
   go_enter Tryz.func164,Tryz.ntmps164;go_wp2_with (refine(z6K _ _).mono ?_;rintro e w' ⟨rfl,rfl⟩);go_ret;exact⟨by rw[hv.out];rfl,rfl⟩
 · by_cases h2:y<x
   · have hv:=hid (show cmv x y=1 by unfold cmv;rw[if_neg h1,if_pos h2])
     go_enter Tryz.func164,Tryz.ntmps164;go_wp2_with (refine(z6K _ _).mono ?_;rintro e w' ⟨rfl,rfl⟩);go_ret;exact⟨by rw[hv.out];rfl,rfl⟩
   · have hv:=hid (show cmv x y=0 by unfold cmv;rw[if_neg h1,if_neg h2])
     go_enter Tryz.func164,Tryz.ntmps164;go_wp2_with (refine(z6K _ _).mono ?_;rintro e w' ⟨rfl,rfl⟩);go_ret;exact⟨by rw[hv.out];rfl,rfl⟩
theorem less_any(x a y b:Nat)(w:World):Calls Tryz.prog 163 #[.agg #[.int .u64 x,.int .i64 a,.pointer none],.agg #[.int .u64 y,.int .i64 b,.pointer none]] w fun e w'=>e=.returned (.int .i64 (cmv x y))∧Below w.heap.size w w':=by
 go_enter Tryz.func163,Tryz.ntmps163;go_wp2_with (refine(zgO _ _ _).mono ?_;rintro e w' ⟨rfl,rfl⟩);go_ret;exact⟨rfl,(qL).alloc (by simp) _⟩
def Lfs(w:World)(b n:Nat)(e:Nat→Nat×Nat):Prop:=
 ∃c:Array Value,w.heap[b]? =some (.cells c 238 (0,0))∧n*3≤c.size∧∀i,i<n→c[i*3]? =some (.int .u64 (e i).1)∧c[i*3+1]? =some (.int .i64 (e i).2)∧c[i*3+2]? =some (.pointer none)
section
variable {w w':World} {b n:Nat} {e e':Nat→Nat×Nat}
theorem Lfs.lt(h:Lfs w b n e):b<w.heap.size:=by
 obtain⟨c,hb,_⟩:=h;rcases Nat.lt_or_ge b w.heap.size with g|g
 · exact g
 · rw[Array.getElem?_eq_none g] at hb;cases hb
theorem Lfs.cells(h:Lfs w b n e){i:Nat}(hi:i<n):w.cell? ⟨b,i*3,none⟩=some (.int .u64 (e i).1)∧w.cell? ⟨b,i*3+1,none⟩=some (.int .i64 (e i).2)∧w.cell? ⟨b,i*3+2,none⟩=some (.pointer none):=by
 obtain⟨c,hb,_,hc⟩:=h;rw[cell_of_row w b _ c _ _ hb,cell_of_row w b _ c _ _ hb,cell_of_row w b _ c _ _ hb];exact hc i hi
theorem Lfs.frozen(h:Lfs w b n e)(i:Nat):w.frozen? ⟨b,i,none⟩=false:=by
 obtain⟨c,hb,_⟩:=h;simp[World.frozen?,hb]
theorem Lfs.congr(h:Lfs w b n e)(q:∀i,i<n→e i=e' i):Lfs w b n e':=by
 obtain⟨c,hb,hs,hc⟩:=h;exact⟨c,hb,hs,fun i hi=>by rw[←q i hi];exact hc i hi⟩
theorem Lfs.at'(h:Lfs w b n e)(q:w'.heap[b]? =w.heap[b]?):Lfs w' b n e:=by
 obtain⟨c,hb,hs,hc⟩:=h;exact⟨c,q.trans hb,hs,hc⟩
theorem Lfs.drew(h:Lfs w b n e):Lfs w.drew b n e:=h
theorem Lfs.below(h:Lfs w b n e){B:Nat}(hb:Below B w w')(hB:b<B):Lfs w' b n e:=h.at' (hb.block b hB)
theorem Lfs.set(h:Lfs w b n e)(i x y:Nat):Lfs (((w.setCell ⟨b,i*3,none⟩ (.int .u64 x)).setCell ⟨b,i*3+1,none⟩ (.int .i64 y)).setCell ⟨b,i*3+2,none⟩ (.pointer none)) b n (fun j=>if j=i then(x,y) else e j):=by
 obtain⟨c,hb,hs,hc⟩:=h;refine⟨((c.setIfInBounds (i*3) (.int .u64 x)).setIfInBounds (i*3+1) (.int .i64 y)).setIfInBounds (i*3+2) (.pointer none),?_,by simp[hs],fun j hj=> ?_⟩
 · simp[World.setCell,Array.getElem?_modify,hb]
 · obtain⟨h1,h2,h3⟩:=hc j hj
   by_cases q:j=i
   · subst q
     have l1:j*3<c.size:=by omega
     have l2:j*3+1<c.size:=by omega
     have l3:j*3+2<c.size:=by omega
     refine⟨?_,?_,?_⟩
     · rw[Array.getElem?_setIfInBounds,if_neg (by omega),Array.getElem?_setIfInBounds,if_neg (by omega),Array.getElem?_setIfInBounds,if_pos rfl,if_pos l1];simp
     · rw[Array.getElem?_setIfInBounds,if_neg (by omega),Array.getElem?_setIfInBounds,if_pos rfl,if_pos (by simpa using l2)];simp
     · rw[Array.getElem?_setIfInBounds,if_pos rfl,if_pos (by simpa using l3)]
   · refine⟨?_,?_,?_⟩
     · rw[Array.getElem?_setIfInBounds,if_neg (by omega),Array.getElem?_setIfInBounds,if_neg (by omega),Array.getElem?_setIfInBounds,if_neg (by omega),h1];simp[q]
     · rw[Array.getElem?_setIfInBounds,if_neg (by omega),Array.getElem?_setIfInBounds,if_neg (by omega),Array.getElem?_setIfInBounds,if_neg (by omega),h2];simp[q]
     · rw[Array.getElem?_setIfInBounds,if_neg (by omega),Array.getElem?_setIfInBounds,if_neg (by omega),Array.getElem?_setIfInBounds,if_neg (by omega),h3]
end
end Go.Proofs.YtacelhaidcmbcaaGreatDoor
