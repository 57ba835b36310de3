import Derived.Test.YtdpabanajgegjaaGreatDoorEMMathT
import Derived.ChangeSlices
import Derived.Deep.Slices
namespace Go.Proofs.YtdpabanajgegjaaGreatDoor
open Go Go.RowKit M
open Go.ChangeShapes Go.WideShapes
set_option linter.unusedVariables false
def IsRow(k:IntKind)(w:World)(a:Option Addr)(len cap:Nat)(zs:List Int):Prop:=
 (a=none∧len=0∧cap=0∧zs=[])∨
 ∃ad,a=some ad∧len≤cap∧cap≤maxLen∧zs.length=cap∧(∀i,i<zs.length→w.cell? (ad.add i)=some (.int k (zs.getD i 0)))∧(∀n∈zs,(Lit.int k n).wf=true)
theorem iadd_at(b o j:Nat):(⟨b,o,none⟩:Addr).add j=⟨b,o+j,none⟩:=by
 unfold Addr.add
 split
 · rename_i h;subst h;rfl
 · rfl
section
variable {k:IntKind} {w:World} {a:Option Addr} {len cap:Nat} {zs:List Int}
theorem IsRow.most(h:IsRow k w a len cap zs):len≤cap∧cap≤maxLen:=by
 rcases h with⟨_,h1,h2,_⟩|⟨ad,_,h1,h2,_⟩
 · rw[h1,h2];exact⟨Nat.le_refl _,by decide⟩
 · exact⟨h1,h2⟩
theorem IsRow.nums(h:IsRow k w a len cap zs):Nums w k a len (fun i=>zs.getD i 0):=fun hn=>by
 rcases h with⟨_,h1,_,_⟩|⟨ad,rfl,h1,h2,h3,h4,h5⟩
 · omega
 · have c0:=h4 0 (by omega)
   have hsp:ad.spot=none:=by
    have:=World.cell?_spot c0;rw[Addr.add,if_pos rfl] at this;exact this
   obtain⟨b,o,sp⟩:=ad;obtain rfl:sp=none:=hsp;refine⟨b,o,rfl,?_,fun i hi=> ?_⟩
   · have:=World.block_lt_of_cell? _ _ c0
     rwa [iadd_at] at this
   · rw[←iadd_at];exact h4 i (by omega)
theorem IsRow.wf(h:IsRow k w a len cap zs)(h0:(Lit.int k 0).wf=true)(i:Nat):(Lit.int k (zs.getD i 0)).wf=true:=by
 rw[List.getD];rcases h with⟨_,_,_,rfl⟩|⟨ad,rfl,h1,h2,h3,h4,h5⟩
 · simpa using h0
 · cases e:zs[i]? with
   |none=>simpa using h0
   |some x=>exact h5 x (List.mem_of_getElem? e)
end
def nat8(zs:List Int)(i:Nat):Nat:=(zs.getD i 0).toNat
theorem IsRow.nat8{w:World}{a:Option Addr}{len cap:Nat}{zs:List Int}(h:IsRow .u8 w a len cap zs):(∀i,nat8 zs i≤255)∧Nums w .u8 a len (fun i=>(nat8 zs i:Int)):=by
 have hb:∀i,0≤zs.getD i 0∧zs.getD i 0≤255:=fun i=>by
  have:=h.wf (by decide) i
  simpa [Lit.wf,IntKind.min,IntKind.max,IntKind.signed,IntKind.bits] using this
 refine⟨fun i=> ?_,h.nums.congr fun i hi=> ?_⟩
 · have:=hb i
   unfold Go.Proofs.YtdpabanajgegjaaGreatDoor.nat8;omega
 · have:=hb i
   unfold Go.Proofs.YtdpabanajgegjaaGreatDoor.nat8;omega
theorem IsRow.nat16{w:World}{a:Option Addr}{len cap:Nat}{zs:List Int}(h:IsRow .u16 w a len cap zs):(∀i,Go.Proofs.YtdpabanajgegjaaGreatDoor.nat8 zs i≤65535)∧Nums w .u16 a len (fun i=>(Go.Proofs.YtdpabanajgegjaaGreatDoor.nat8 zs i:Int)):=by
 have hb:∀i,0≤zs.getD i 0∧zs.getD i 0≤65535:=fun i=>by
  have:=h.wf (by decide) i
  simpa [Lit.wf,IntKind.min,IntKind.max,IntKind.signed,IntKind.bits] using this
 refine⟨fun i=> ?_,h.nums.congr fun i hi=> ?_⟩
 · have:=hb i
   unfold Go.Proofs.YtdpabanajgegjaaGreatDoor.nat8;omega
 · have:=hb i
   unfold Go.Proofs.YtdpabanajgegjaaGreatDoor.nat8;omega
end Go.Proofs.YtdpabanajgegjaaGreatDoor
