import Derived.Test.YtdpabanajgegjaaGreatDoorProg
import Derived.Test.YtdpabanajgegjaaGreatDoorEMMathT
import Derived.WalkKit
import Derived.Lib.Hide
import Derived.RegionTactic
import Derived.BigRegion
import Derived.IntWalk
import Derived.Maps.AppendAt
import Derived.OwnWalk
import Derived.Laws.MakeOwn
namespace Go.Proofs.YtdpabanajgegjaaGreatDoor
open Go.RowKit M
set_option linter.unusedVariables false
theorem add_at(b o j:Nat):(⟨b,o,none⟩:Addr).add j=⟨b,o+j,none⟩:=by
 unfold Addr.add
 split
 · rename_i h;subst h;rfl
 · rfl
section
variable {base:Nat} {w w':World} {v:Value}
end
theorem byteInfo:(Tryz.prog.info? 5).map (fun i=>(i.zero,i.size,i.bytes))=some (some (.int .u8 0),1,1):=by kernel_rfl
theorem intInfo:(Tryz.prog.info? 3).map (fun i=>(i.zero,i.size,i.bytes))=some (some (.int .i64 0),1,8):=by kernel_rfl
theorem info_of{e:TypeId}{z:Value}{size bytes:Nat}(hi:(Tryz.prog.info? e).map (fun i=>(i.zero,i.size,i.bytes))=some (some z,size,bytes)):∃i,Tryz.prog.info? e=some i∧i.zero=some z∧i.size=size∧i.bytes=bytes:=by
 cases hq: Tryz.prog.info? e with
 |none=>rw[hq] at hi;cases hi
 |some i=>rw[hq] at hi;simp at hi;exact⟨i,rfl,hi.1,hi.2.1,hi.2.2⟩
theorem run_made(w:World){t e:TypeId}{z:Value}{size bytes:Nat}(ht: Tryz.prog.underlying t=some (.slice e))(hi:(Tryz.prog.info? e).map (fun i=>(i.zero,i.size,i.bytes))=some (some z,size,bytes))(hb:bytes≤64)(n m:Nat)(hn:n≤m)(hm:m≤2000):
 (Instr.makeSlice t (.int .i64 (n:Int)) (.int .i64 (m:Int))).run Tryz.prog w=.ok (.slice (some ⟨w.heap.size,0,none⟩) n m) (w.alloc (.cells (madeCells z.cells (m*size)) e)):=by
 obtain⟨i,h1,h2,h3,h4⟩:=info_of hi;subst h3 h4
 have hb':(i.bytes:Int)*(m:Int)≤281474976710656:=by
  have h:i.bytes*m≤64*2000:=Nat.mul_le_mul hb hm;have h':((i.bytes*m:Nat):Int)≤281474976710656:=by omega
  rwa [Int.natCast_mul] at h'
 have hr:=run_make (P:= Tryz.prog) w t e i z ht h1 h2 .i64 .i64 n m (by omega) (by omega) hb' (by omega);simp only[Int.toNat_natCast] at hr;exact hr
abbrev Tp:=Th×Option Addr
end Go.Proofs.YtdpabanajgegjaaGreatDoor
