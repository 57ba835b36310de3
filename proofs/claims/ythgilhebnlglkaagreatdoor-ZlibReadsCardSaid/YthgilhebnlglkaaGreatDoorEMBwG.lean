import Derived.Test.YthgilhebnlglkaaGreatDoorEMRns
import Derived.Test.YthgilhebnlglkaaGreatDoorEMPkE
import Derived.Lib.ConvBytes
import Derived.StillTailTactics
import Derived.Deep.CutRange
set_option linter.all false
set_option maxHeartbeats 8000000
set_option maxRecDepth 1000000
open Go.Proofs.Tryz
namespace Go.Proofs.YthgilhebnlglkaaGreatDoor.V
open Go Go.RowKit M U
def two(a b:Value)(i:Nat):Value:=if i=0 then a else b
def C2(w:World)(g:Nat)(a b:Value):Prop:=w.rowIs g 149 2 (two a b)
section
variable {w w':World} {g:Nat} {a b:Value}
theorem C2.new(w:World)(a b:Value):C2 (w.alloc (.cells #[a,b] 149)) w.heap.size a b:=⟨#[a,b],heap_alloc_new _ _,rfl,λi hi=>by
 match i,hi with
 |0,_=>rfl
 |1,_=>rfl⟩
theorem C2.other(h:C2 w g a b){x:Addr}(hx:g≠x.block)(u:Value):C2 (w.setCell x u) g a b:=World.rowIs.setOther h hx u
theorem C2.at0(h:C2 w g a b):w.cell? ⟨g,0,none⟩=some a:=World.rowIs.cell h (i:=0) (by omega)
theorem C2.at1(h:C2 w g a b):w.cell? ⟨g,1,none⟩=some b:=World.rowIs.cell h (i:=1) (by omega)
theorem C2.frozen(h:C2 w g a b)(i:Nat):w.frozen? ⟨g,i,none⟩=false:=World.rowIs.frozen h i
theorem C2.put(h:C2 w g a b)(c d:Value):C2 ((w.setCell ⟨g,0,none⟩ c).setCell ⟨g,1,none⟩ d) g c d:=
 World.rowIs.congr (World.rowIs.set (World.rowIs.set h 0 c) 1 d) (λj hj=>by
  match j,hj with
  |0,_=>rfl
  |1,_=>rfl)
theorem C2.row(h:C2 w g a b):w.heap[g]? =some (.cells #[a,b] 149 (0,0)):=by
 obtain⟨c,h1,h2,h3⟩:=h;have:c= #[a,b]:=by
  apply Array.ext_getElem?
  intro i
  match i with
  |0=>exact h3 0 (by omega)
  |1=>exact h3 1 (by omega)
  |i+2=>rw[Array.getElem?_eq_none (by omega),Array.getElem?_eq_none (by simp)]
 rw[h1,this]
end
theorem z3g:(prog.info? 149).map (λi=>i.size)=some 2:=by kernel_rfl
def fxl(j:Nat):Nat:=if j<144 then 8 else if j<256 then 9 else if j<280 then 7 else 8
structure Fx(w0 w:World)(cb la da:Nat)(f g:Nat->Nat):Prop where
 r:C2 w w0.heap.size (.slice none 0 0) (.slice none 0 0)
 c:C2 w cb (.slice (some ⟨la,0,none⟩) 288 288) (.slice (some ⟨da,0,none⟩) 30 30)
 l:Br w la 288 f
 d:Br w da 30 g
 gc:w0.heap.size<cb
 gl:w0.heap.size<la
 gd:w0.heap.size<da
 nl:cb≠la
 nd:cb≠da
 ne:la≠da
 b:Below w0.heap.size w0 w
section
variable {w0 w:World} {cb la da:Nat} {f g:Nat->Nat}
theorem Fx.setL(h:Fx w0 w cb la da f g)(i x:Nat):Fx w0 (w.setCell ⟨la,i,none⟩ (.int .u8 x)) cb la da (λj=>if j=i then x else f j) g:=
 ⟨h.r.other (Nat.ne_of_lt h.gl) _,h.c.other h.nl _,h.l.set i x,h.d.other (λe=>h.ne e.symm) _,h.gc,h.gl,h.gd,h.nl,h.nd,h.ne,h.b.setCell (Nat.le_of_lt h.gl) _⟩
theorem Fx.setD(h:Fx w0 w cb la da f g)(i x:Nat):Fx w0 (w.setCell ⟨da,i,none⟩ (.int .u8 x)) cb la da f (λj=>if j=i then x else g j):=
 ⟨h.r.other (Nat.ne_of_lt h.gd) _,h.c.other h.nd _,h.l.other h.ne _,h.d.set i x,h.gc,h.gl,h.gd,h.nl,h.nd,h.ne,h.b.setCell (Nat.le_of_lt h.gd) _⟩
theorem Fx.congr{f' g':Nat->Nat}(h:Fx w0 w cb la da f g)(e:∀i,i<288->f i=f' i)(e2:∀i,i<30->g i=g' i):Fx w0 w cb la da f' g':=
 ⟨h.r,h.c,h.l.congr e,h.d.congr e2,h.gc,h.gl,h.gd,h.nl,h.nd,h.ne,h.b⟩
end
theorem z96(w:World)(o0 o1 o2 o3:Obj):((((w.alloc o0).alloc o1).alloc o2).alloc o3).heap[w.heap.size]? =some o0/\((((w.alloc o0).alloc o1).alloc o2).alloc o3).heap[w.heap.size+1]? =some o1/\((((w.alloc o0).alloc o1).alloc o2).alloc o3).heap[w.heap.size+1+1]? =some o2/\((((w.alloc o0).alloc o1).alloc o2).alloc o3).heap[w.heap.size+1+1+1]? =some o3/\Below w.heap.size w ((((w.alloc o0).alloc o1).alloc o2).alloc o3):=by
 have s0:(w.alloc o0).heap.size=w.heap.size+1:=(by simp);have s1:((w.alloc o0).alloc o1).heap.size=w.heap.size+1+1:=(by simp);have s2:(((w.alloc o0).alloc o1).alloc o2).heap.size=w.heap.size+1+1+1:=(by simp);have a0:=heap_alloc_new w o0;have a1:=heap_alloc_new (w.alloc o0) o1;have a2:=heap_alloc_new ((w.alloc o0).alloc o1) o2;have a3:=heap_alloc_new (((w.alloc o0).alloc o1).alloc o2) o3;rw[s0] at a1;rw[s1] at a2;rw[s2] at a3;refine⟨?_,?_,?_,a3,((((qL).alloc (by omega) _).alloc (by omega) _).alloc (by omega) _)⟩
 · rw[Below.heap_alloc _ _ _ (by omega),Below.heap_alloc _ _ _ (by omega),Below.heap_alloc _ _ _ (by omega)];exact a0
 · rw[Below.heap_alloc _ _ _ (by omega),Below.heap_alloc _ _ _ (by omega)];exact a1
 · rw[Below.heap_alloc _ _ _ (by omega)];exact a2
theorem Fx.start{w w3:World}{cb la da:Nat}(hr:w3.heap[w.heap.size]? =some (.cells #[.slice none 0 0,.slice none 0 0] 149))
 (hc:w3.heap[cb]? =some (.cells #[.slice (some ⟨la,0,none⟩) 288 288,.slice (some ⟨da,0,none⟩) 30 30] 149)) (hl:w3.heap[la]? =some (.cells (madeCells #[.int .u8 0] 288) 5)) (hd:w3.heap[da]? =some (.cells (madeCells #[.int .u8 0] 30) 5))
 (hb:Below w.heap.size w w3) (gc:w.heap.size<cb) (gl:w.heap.size<la) (gd:w.heap.size<da) (nl:cb≠la) (nd:cb≠da) (ne:la≠da):
 Fx w w3.drew cb la da (λ_=>0) (λ_=>0):=
 ⟨⟨_,hr,rfl,λi hi=>by
   match i,hi with
   |0,_=>rfl
   |1,_=>rfl⟩,⟨_,hc,rfl,λi hi=>by
   match i,hi with
   |0,_=>rfl
   |1,_=>rfl⟩,⟨_,hl,by simp[size_madeCells],λi hi=>by simp[madeCells,hi,Nat.mod_one]⟩,⟨_,hd,by simp[size_madeCells],λi hi=>by simp[madeCells,hi,Nat.mod_one]⟩,gc,gl,gd,nl,nd,ne,hb.drew⟩
theorem Fx.s1(w:World):Fx w ((((w.alloc (.cells #[.slice none 0 0,.slice none 0 0] 149)).alloc (.cells (madeCells #[.int .u8 0] 288) 5)).alloc (.cells (madeCells #[.int .u8 0] 30) 5)).alloc (.cells #[.slice (some ⟨w.heap.size+1,0,none⟩) 288 288,.slice (some ⟨w.heap.size+1+1,0,none⟩) 30 30] 149)).drew (w.heap.size+1+1+1) (w.heap.size+1) (w.heap.size+1+1) (λ_=>0) (λ_=>0):=by
 obtain⟨a0,a1,a2,a3,b⟩:=z96 w (.cells #[.slice none 0 0,.slice none 0 0] 149) (.cells (madeCells #[.int .u8 0] 288) 5) (.cells (madeCells #[.int .u8 0] 30) 5) (.cells #[.slice (some ⟨w.heap.size+1,0,none⟩) 288 288,.slice (some ⟨w.heap.size+1+1,0,none⟩) 30 30] 149);exact Fx.start a0 a3 a1 a2 b (by omega) (by omega) (by omega) (by omega) (by omega) (by omega)
theorem Fx.s2(w:World):Fx w ((((w.alloc (.cells #[.slice none 0 0,.slice none 0 0] 149)).alloc (.cells (madeCells #[.int .u8 0] 288) 5)).alloc (.cells #[.slice (some ⟨w.heap.size+1,0,none⟩) 288 288,.slice (some ⟨w.heap.size+1+1+1,0,none⟩) 30 30] 149)).alloc (.cells (madeCells #[.int .u8 0] 30) 5)).drew (w.heap.size+1+1) (w.heap.size+1) (w.heap.size+1+1+1) (λ_=>0) (λ_=>0):=by
 obtain⟨a0,a1,a2,a3,b⟩:=z96 w (.cells #[.slice none 0 0,.slice none 0 0] 149) (.cells (madeCells #[.int .u8 0] 288) 5) (.cells #[.slice (some ⟨w.heap.size+1,0,none⟩) 288 288,.slice (some ⟨w.heap.size+1+1+1,0,none⟩) 30 30] 149) (.cells (madeCells #[.int .u8 0] 30) 5);exact Fx.start a0 a2 a1 a3 b (by omega) (by omega) (by omega) (by omega) (by omega) (by omega)
theorem Fx.s3(w:World):Fx w ((((w.alloc (.cells #[.slice none 0 0,.slice none 0 0] 149)).alloc (.cells (madeCells #[.int .u8 0] 30) 5)).alloc (.cells (madeCells #[.int .u8 0] 288) 5)).alloc (.cells #[.slice (some ⟨w.heap.size+1+1,0,none⟩) 288 288,.slice (some ⟨w.heap.size+1,0,none⟩) 30 30] 149)).drew (w.heap.size+1+1+1) (w.heap.size+1+1) (w.heap.size+1) (λ_=>0) (λ_=>0):=by
 obtain⟨a0,a1,a2,a3,b⟩:=z96 w (.cells #[.slice none 0 0,.slice none 0 0] 149) (.cells (madeCells #[.int .u8 0] 30) 5) (.cells (madeCells #[.int .u8 0] 288) 5) (.cells #[.slice (some ⟨w.heap.size+1+1,0,none⟩) 288 288,.slice (some ⟨w.heap.size+1,0,none⟩) 30 30] 149);exact Fx.start a0 a3 a2 a1 b (by omega) (by omega) (by omega) (by omega) (by omega) (by omega)
theorem Fx.s4(w:World):Fx w ((((w.alloc (.cells #[.slice none 0 0,.slice none 0 0] 149)).alloc (.cells (madeCells #[.int .u8 0] 30) 5)).alloc (.cells #[.slice (some ⟨w.heap.size+1+1+1,0,none⟩) 288 288,.slice (some ⟨w.heap.size+1,0,none⟩) 30 30] 149)).alloc (.cells (madeCells #[.int .u8 0] 288) 5)).drew (w.heap.size+1+1) (w.heap.size+1+1+1) (w.heap.size+1) (λ_=>0) (λ_=>0):=by
 obtain⟨a0,a1,a2,a3,b⟩:=z96 w (.cells #[.slice none 0 0,.slice none 0 0] 149) (.cells (madeCells #[.int .u8 0] 30) 5) (.cells #[.slice (some ⟨w.heap.size+1+1+1,0,none⟩) 288 288,.slice (some ⟨w.heap.size+1,0,none⟩) 30 30] 149) (.cells (madeCells #[.int .u8 0] 288) 5);exact Fx.start a0 a2 a3 a1 b (by omega) (by omega) (by omega) (by omega) (by omega) (by omega)
theorem Fx.s5(w:World):Fx w ((((w.alloc (.cells #[.slice none 0 0,.slice none 0 0] 149)).alloc (.cells #[.slice (some ⟨w.heap.size+1+1,0,none⟩) 288 288,.slice (some ⟨w.heap.size+1+1+1,0,none⟩) 30 30] 149)).alloc (.cells (madeCells #[.int .u8 0] 288) 5)).alloc (.cells (madeCells #[.int .u8 0] 30) 5)).drew (w.heap.size+1) (w.heap.size+1+1) (w.heap.size+1+1+1) (λ_=>0) (λ_=>0):=by
 obtain⟨a0,a1,a2,a3,b⟩:=z96 w (.cells #[.slice none 0 0,.slice none 0 0] 149) (.cells #[.slice (some ⟨w.heap.size+1+1,0,none⟩) 288 288,.slice (some ⟨w.heap.size+1+1+1,0,none⟩) 30 30] 149) (.cells (madeCells #[.int .u8 0] 288) 5) (.cells (madeCells #[.int .u8 0] 30) 5);exact Fx.start a0 a1 a2 a3 b (by omega) (by omega) (by omega) (by omega) (by omega) (by omega)
theorem Fx.s6(w:World):Fx w ((((w.alloc (.cells #[.slice none 0 0,.slice none 0 0] 149)).alloc (.cells #[.slice (some ⟨w.heap.size+1+1+1,0,none⟩) 288 288,.slice (some ⟨w.heap.size+1+1,0,none⟩) 30 30] 149)).alloc (.cells (madeCells #[.int .u8 0] 30) 5)).alloc (.cells (madeCells #[.int .u8 0] 288) 5)).drew (w.heap.size+1) (w.heap.size+1+1+1) (w.heap.size+1+1) (λ_=>0) (λ_=>0):=by
 obtain⟨a0,a1,a2,a3,b⟩:=z96 w (.cells #[.slice none 0 0,.slice none 0 0] 149) (.cells #[.slice (some ⟨w.heap.size+1+1+1,0,none⟩) 288 288,.slice (some ⟨w.heap.size+1+1,0,none⟩) 30 30] 149) (.cells (madeCells #[.int .u8 0] 30) 5) (.cells (madeCells #[.int .u8 0] 288) 5);exact Fx.start a0 a1 a3 a2 b (by omega) (by omega) (by omega) (by omega) (by omega) (by omega)
theorem fixed_any(w:World):Calls prog 106 #[] w λe w'=> ∃la da,e=.returned (.agg #[.slice (some ⟨la,0,none⟩) 288 288,.slice (some ⟨da,0,none⟩) 30 30])/\w.heap.size<=la/\w.heap.size<=da/\Br w' la 288 fxl/\Br w' da 30 (λ_=>5)/\Below w.heap.size w w':=by
 have hmk1:∀w,(Instr.makeSlice 26 (.int .i64 288) (.int .i64 288)).run prog w=.ok (.slice (some ⟨w.heap.size,0,none⟩) 288 288) (w.alloc (.cells (madeCells #[.int .u8 0] 288) 5)):=λw=>madeByte w 288 (by omega)
 have hmk2:∀w,(Instr.makeSlice 26 (.int .i64 30) (.int .i64 30)).run prog w=.ok (.slice (some ⟨w.heap.size,0,none⟩) 30 30) (w.alloc (.cells (madeCells #[.int .u8 0] 30) 5)):=λw=>madeByte w 30 (by omega)
 go_enter func106,ntmps106;go_wp2_with fail
 go_region
 all_goals go_wp2_with fail
 all_goals clear hmk1 hmk2
 have h0:=Fx.s1 w;generalize w.heap.size+1+1+1=cb at h0 ⊢;generalize w.heap.size+1+1=da at h0 ⊢;generalize w.heap.size+1=la at h0 ⊢;have H0:=qH h0;clear h0;rotate_left;have h0:=Fx.s2 w;generalize w.heap.size+1+1+1=da at h0 ⊢;generalize w.heap.size+1+1=cb at h0 ⊢;generalize w.heap.size+1=la at h0 ⊢;have H0:=qH h0;clear h0;rotate_left;have h0:=Fx.s3 w;generalize w.heap.size+1+1+1=cb at h0 ⊢;generalize w.heap.size+1+1=la at h0 ⊢;generalize w.heap.size+1=da at h0 ⊢;have H0:=qH h0;clear h0;rotate_left;have h0:=Fx.s4 w;generalize w.heap.size+1+1+1=la at h0 ⊢;generalize w.heap.size+1+1=cb at h0 ⊢;generalize w.heap.size+1=da at h0 ⊢;have H0:=qH h0;clear h0;rotate_left;have h0:=Fx.s5 w;generalize w.heap.size+1+1+1=da at h0 ⊢;generalize w.heap.size+1+1=la at h0 ⊢;generalize w.heap.size+1=cb at h0 ⊢;have H0:=qH h0;clear h0;rotate_left;have h0:=Fx.s6 w;generalize w.heap.size+1+1+1=la at h0 ⊢;generalize w.heap.size+1+1=da at h0 ⊢;generalize w.heap.size+1=cb at h0 ⊢;have H0:=qH h0;clear h0;rotate_left
 all_goals (
  go_loopw [2] (λx wr=> ∃i,x=.int .i64 (i:Nat)/\i<=288/\Fx w wr cb la da (λj=>if j<i then fxl j else 0) (λ_=>0)) (λx _=>288 - (intOf x).toNat)
  case atStart=>exact⟨0,rfl,qZ,H0.o.congr (λi _=>by rw[if_neg (by omega)]) (λi _=>rfl)⟩
  case round=>
   obtain⟨i,rfl,hi,hf⟩:=hrel;have c0:=hf.c.at0;have HF:=qH hf;by_cases hlt:i<288
   · have d1:decide ((i:Int)<288)=true:=q9T (by omega)
     have f3:=hf.l.frozen i;have x3:=hf.l.cell hlt;have hN:∀y,fxl i=y->Hd (Fx w (wr.setCell ⟨la,i,none⟩ (.int .u8 (y:Nat))) cb la da (λj=>if j<i+1 then fxl j else 0) (λ_=>0)):=λy hy=>qH ((hf.setL i y).congr (λj hj=>by
      by_cases e:j=i
      · rw[if_pos e,if_pos (by omega),e,hy]
      · rw[if_neg e]
        by_cases q:j<i
        · rw[if_pos q,if_pos (by omega)]
        · rw[if_neg q,if_neg (by omega)]) (λ_ _=>rfl))
     by_cases h1:i<144
     · have e1:decide ((i:Int)<144)=true:=q9T (by omega)
       have HN:=hN 8 (by unfold fxl;rw[if_pos h1]);clear hN hf h1;go_wp2_with fail;go_roundw
       case rel=>exact⟨i+1,by go_num,by omega,HN.o⟩
       case measure=>(simp[intOf];try omega)
     · have e1:decide ((i:Int)<144)=false:=qF (by omega)
       by_cases h2:i<256
       · have e2:decide ((i:Int)<256)=true:=q9T (by omega)
         have HN:=hN 9 (by unfold fxl;rw[if_neg h1,if_pos h2]);clear hN hf h1 h2;go_wp2_with fail;go_roundw
         case rel=>exact⟨i+1,by go_num,by omega,HN.o⟩
         case measure=>(simp[intOf];try omega)
       · have e2:decide ((i:Int)<256)=false:=qF (by omega)
         by_cases h3:i<280
         · have e3:decide ((i:Int)<280)=true:=q9T (by omega)
           have HN:=hN 7 (by unfold fxl;rw[if_neg h1,if_neg h2,if_pos h3]);clear hN hf h1 h2 h3;go_wp2_with fail;go_roundw
           case rel=>exact⟨i+1,by go_num,by omega,HN.o⟩
           case measure=>(simp[intOf];try omega)
         · have e3:decide ((i:Int)<280)=false:=qF (by omega)
           have HN:=hN 8 (by unfold fxl;rw[if_neg h1,if_neg h2,if_neg h3]);clear hN hf h1 h2 h3;go_wp2_with fail;go_roundw
           case rel=>exact⟨i+1,by go_num,by omega,HN.o⟩
           case measure=>(simp[intOf];try omega)
   · obtain rfl:i=288:=by omega
     have HG:=qH (hf.congr (f':=fxl) (g':=λ_=>0) (λj hj=>by rw[if_pos hj]) (λ_ _=>rfl));clear hf HF;go_wp2_with fail
     go_loopw [3] (λx wr=> ∃k,x=.int .i64 (k:Nat)/\k<=30/\Fx w wr cb la da fxl (λj=>if j<k then 5 else 0)) (λx _=>30 - (intOf x).toNat)
     case atStart=>exact⟨0,rfl,qZ,HG.o.congr (λ_ _=>rfl) (λj _=>by rw[if_neg (by omega)])⟩
     case round=>
      obtain⟨k,rfl,hk,hg⟩:=hrel;have c1:=hg.c.at1;have HK:=qH hg;by_cases hlt2:k<30
      · have d2:decide ((k:Int)<30)=true:=q9T (by omega)
        have f3:=hg.d.frozen k;have x3:=hg.d.cell hlt2;have HN:=qH ((hg.setD k 5).congr (g':=λj=>if j<k+1 then 5 else 0) (λ_ _=>rfl) (λj hj=>by
         by_cases e:j=k
         · rw[if_pos e,if_pos (by omega)]
         · rw[if_neg e]
           by_cases q:j<k
           · rw[if_pos q,if_pos (by omega)]
           · rw[if_neg q,if_neg (by omega)]))
        clear hg;go_wp2_with fail;go_roundw
        case rel=>exact⟨k+1,by go_num,by omega,HN.o⟩
        case measure=>(simp[intOf];try omega)
      · obtain rfl:k=30:=by omega
        have c0:=hg.c.at0;have r0:=hg.r.at0;have r1:=hg.r.at1;have g0:=hg.r.frozen 0;have g1:=hg.r.frozen 1;have HR:=qH (hg.r.put (.slice (some ⟨la,0,none⟩) 288 288) (.slice (some ⟨da,0,none⟩) 30 30));have HL:=qH ((hg.l.other (a:=⟨w.heap.size,0,none⟩) (λe=>Nat.ne_of_lt hg.gl e.symm) (.slice (some ⟨la,0,none⟩) 288 288)).other (a:=⟨w.heap.size,1,none⟩) (λe=>Nat.ne_of_lt hg.gl e.symm) (.slice (some ⟨da,0,none⟩) 30 30));have HD:=qH (((hg.d.congr (f':=λ_=>5) (λj hj=>by rw[if_pos hj])).other (a:=⟨w.heap.size,0,none⟩) (λe=>Nat.ne_of_lt hg.gd e.symm) (.slice (some ⟨la,0,none⟩) 288 288)).other (a:=⟨w.heap.size,1,none⟩) (λe=>Nat.ne_of_lt hg.gd e.symm) (.slice (some ⟨da,0,none⟩) 30 30));have HW:=qH ((hg.b.setCell (p:=⟨w.heap.size,0,none⟩) qR (.slice (some ⟨la,0,none⟩) 288 288)).setCell (p:=⟨w.heap.size,1,none⟩) qR (.slice (some ⟨da,0,none⟩) 30 30));have HQ:=qH (show w.heap.size<=la/\w.heap.size<=da from⟨Nat.le_of_lt hg.gl,Nat.le_of_lt hg.gd⟩);clear hg HG HK;go_wp2_with fail;refine bodyPost_ret (v:=.agg #[.slice (some ⟨la,0,none⟩) 288 288,.slice (some ⟨da,0,none⟩) 30 30]) (results_cell_row rfl _ _ w.heap.size _ _ _ _ rfl HR.o.row underlying149 rfl z3g) rfl ⟨la,da,rfl,HQ.o.1,HQ.o.2,HL.o,HD.o,HW.o⟩)
def cs(b:Bool):List Sy->Nat->Nat
 |[],_=>0
 |y::S,j=>cs b S j+if y.d=b/\y.n=j then 1 else 0
theorem z3f(b:Bool):∀ (S T:List Sy) (j:Nat),cs b (S++T) j=cs b S j+cs b T j
 |[],T,j=>by simp[cs]
 |y::S,T,j=>by simp only[List.cons_append,cs,z3f b S T j];omega
theorem z5Q(b:Bool):∀ (S:List Sy) (j:Nat),cs b S j<=S.length
 |[],j=>qR
 |y::S,j=>by have:=z5Q b S j;simp only[cs,qC];split<;>omega
theorem zij{L:List Tk}(hm:∀t∈L,may t=true)(hg:∀t∈L,t.ok):∀y∈sys L,(y.d=false->y.n<286)/\(y.d=true->y.n<30):=by
 intro y hy;unfold sys at hy;rw[List.mem_append,List.mem_flatMap] at hy;rcases hy with⟨t,ht,hy⟩|hy
 · have h1:=hm t ht
   have h2:=(hg t ht).l;unfold sy1 at hy
   split at hy
   · simp only[List.mem_singleton] at hy
     subst hy;exact⟨λ_=>by simp only;omega,λh=>by cases h⟩
   · rename_i h0
     have hM:isM t=true:=by
      unfold may at h1;rw[Bool.or_eq_true] at h1;rcases h1 with q|q
      · exact absurd (z1E.1 q).1 h0
      · exact q
     have hM2:=z2c.1 hM;have i1:=(zfy (n:=t.n.toNat) (by omega)).1;have i2:=(zbQ (n:=t.d.toNat) (by omega)).1;simp only[List.mem_cons,List.not_mem_nil,or_false] at hy;rcases hy with rfl|rfl
     · exact⟨λ_=>by simp only;omega,λh=>by cases h⟩
     · exact⟨λh=>(by cases h),λ_=>by simp only;omega⟩
 · simp only[List.mem_singleton] at hy
   subst hy;exact⟨λ_=>by simp only;omega,λh=>by cases h⟩
theorem z2U(L:List Tk):(sys L).length<=2*L.length+1:=by
 unfold sys;rw[qA,List.length_singleton];have:=zbD L;omega
theorem z0I{P:Program}{fn:Func}{p u:Tmp}{ty:TypeId}(h:fn.results= #[.cell p ty,.tmp u])(tmps:Array Value)(w:World)(g:Nat)(t:TypeId)(cs:Array Value)(fr:Nat×Nat)(d:TypeDesc)
 (hp:tmps.getD p undef=.pointer (some ⟨g,0,none⟩)) (hg:w.heap[g]? =some (.cells cs t fr))
 (hu:P.underlying ty=some d) (hd:(match d with|.struct _|.array _ _=>true|_=>false)=true) (hi:(P.info? ty).map (·.size)=some cs.size):
 (results fn tmps).run P w=.ok (.tuple #[.agg cs,tmps.getD u undef]) w:=by
 have hp':tmps[p]?.getD undef=.pointer (some ⟨g,0,none⟩):=(by simpa using hp);simp[results,h,hp',asAddr,run_loadVar_row w g t ty cs fr d hg hu hd hi,Sem.run_bind]
section
variable {w0 w:World} {lb db bs:Nat} {v:Value} {S:List Sy} {f g:Nat->Nat}
end
def wsy(l1:Nat->Nat)(n1:Nat)(l2:Nat->Nat)(n2:Nat)(y:Sy):List Nat:=(if y.d=true then cdb (cod l2 n2 y.n) (l2 y.n) else cdb (cod l1 n1 y.n) (l1 y.n))++put y.e y.b
structure z9p(l:Nat->Nat)(n:Nat):Prop where
 may:May l n
 wt:z02 l n<=32768
 byte:∀i,l i<=255
theorem z9p.erc{l:Nat->Nat}{n:Nat}(h:z9p l n):M.erc l n=0/\z32 l n=n:=by
 have hk:=z0R h.may;have hw:=h.wt;have h5:kind l n≠5/\kind l n≠4:=by
  rw[hk];constructor
  · split
    · omega
    · split
      · omega
      · split
        · omega
        · split<;>omega
  · split
    · omega
    · split
      · omega
      · split
        · omega
        · split<;>omega
 have e0:M.erc l n=0:=(by unfold M.erc;rw[if_neg h5.1,if_neg h5.2]);exact⟨e0,by unfold z32;rw[if_pos e0]⟩
theorem Crow.at'{w w':World}{b n:Nat}{F G:Nat->Nat}(h:C.Crow w b n F G)(e:w'.heap[b]? =w.heap[b]?):C.Crow w' b n F G:=by
 obtain⟨c,h1,h2⟩:=h;exact⟨c,e.trans h1,h2⟩
section
variable {B P ba n1 bb n2 Z sb q c:Nat} {w w':World} {v v':Value} {bs bs':List Nat} {l1 l2:Nat->Nat} {S:List Sy}
end
theorem zik{L:List Tk}(hm:∀t∈L,may t=true):∀y∈sys L,y.b<=13/\y.e<=32768:=by
 intro y hy;unfold sys at hy;rw[List.mem_append,List.mem_flatMap] at hy;rcases hy with⟨t,ht,hy⟩|hy
 · have h1:=hm t ht
   unfold sy1 at hy
   split at hy
   · simp only[List.mem_singleton] at hy
     subst hy;simp
   · rename_i h0
     have hM:isM t=true:=by
      unfold may at h1;rw[Bool.or_eq_true] at h1;rcases h1 with q|q
      · exact absurd (z1E.1 q).1 h0
      · exact q
     have hM2:=z2c.1 hM;have i1:=(zfy (n:=t.n.toNat) (by omega)).1;have i2:=(zbQ (n:=t.d.toNat) (by omega)).1;have j1:=zdY _ i1;have j2:=zer _ i2;have x1:lex t.n.toNat<=t.n.toNat:=Nat.sub_le _ _;have x2:dex t.d.toNat<=t.d.toNat:=Nat.sub_le _ _;simp only[List.mem_cons,List.not_mem_nil,or_false] at hy;rcases hy with rfl|rfl
     · exact⟨by simp only;omega,by simp only;omega⟩
     · exact⟨by simp only;omega,by simp only;omega⟩
 · simp only[List.mem_singleton] at hy
   subst hy;simp
theorem zg5(l1:Nat->Nat)(n1:Nat)(l2:Nat->Nat)(n2:Nat)(y:Sy)(h1:l1 y.n<=255)(h2:l2 y.n<=255)(hb:y.b<=13):(wsy l1 n1 l2 n2 y).length<=268:=by
 unfold wsy;rw[qA,z0c]
 split<;>rw[z1n]<;>omega
theorem z4h(l1:Nat->Nat)(n1:Nat)(l2:Nat->Nat)(n2:Nat)(h1:∀i,l1 i<=255)(h2:∀i,l2 i<=255):∀ (S:List Sy),(∀y∈S,y.b<=13)->(S.flatMap (wsy l1 n1 l2 n2)).length<=268*S.length
 |[],_=>by simp
 |y::S,hS=>by
  rw[List.flatMap_cons,qA,qC];have:=zg5 l1 n1 l2 n2 y (h1 _) (h2 _) (hS y (by simp));have:=z4h l1 n1 l2 n2 h1 h2 S (λz hz=>hS z (by simp[hz]));omega
def Rok(r:Rn):Prop:=r.s<=18/\r.e<=127
theorem zi2(n:Nat):∀r∈zrs n,Rok r:=by
 induction n using Nat.strongRecOn with
 |_ n ih=>
  intro r hr;by_cases h:11<=n
  · rw[z1I h,List.mem_cons] at hr
    rcases hr with rfl|hr
    · exact⟨qR,by simp only;omega⟩
    · exact ih _ (by omega) r hr
  · by_cases h3:3<=n
    · rw[z1H h h3,List.mem_singleton] at hr
      subst hr;exact⟨by simp only;omega,by simp only;omega⟩
    · rw[z18 h3] at hr
      rw[List.eq_of_mem_replicate hr];exact⟨by simp only;omega,by simp only;omega⟩
theorem zgR(v:Nat)(hv:v<=15)(n:Nat):∀r∈z9u v n,Rok r:=by
 induction n using Nat.strongRecOn with
 |_ n ih=>
  intro r hr;by_cases h:3<=n
  · rw[z1c h,List.mem_cons] at hr
    rcases hr with rfl|hr
    · exact⟨by simp only;omega,by simp only;omega⟩
    · exact ih _ (by omega) r hr
  · rw[z12 h] at hr
    rw[List.eq_of_mem_replicate hr];exact⟨by simp only;omega,by simp only;omega⟩
theorem zgM:∀l:List Nat,(∀v∈l,v<=15)->∀r∈pk l,Rok r:=by
 intro l;generalize hn:l.length=n
 induction n using Nat.strongRecOn generalizing l with
 |_ n ih=>
  cases l with
  |nil=>intro _ r hr;rw[z5w] at hr;cases hr
  |cons v l=>
   intro hl r hr;rw[z31,List.mem_append] at hr;have hv:=hl v (by simp);rcases hr with hr|hr
   · unfold one at hr
     split at hr
     · exact zi2 _ r hr
     · unfold oth at hr
       rw[List.mem_cons] at hr;rcases hr with rfl|hr
       · exact⟨by simp only;omega,by simp only;omega⟩
       · exact zgR v hv _ r hr
   · rw[qC] at hn
     exact ih (l.drop (ru v l)).length (by rw[List.length_drop];omega) _ rfl (λx hx=>hl x (by simp[List.mem_of_mem_drop hx])) r hr
def rbn(s:Nat):Nat:=if s<16 then 0 else if s=16 then 2 else if s=17 then 3 else 7
theorem zaz(s:Nat):rbn s<=7:=by
 unfold rbn
 repeat' split
 all_goals omega
theorem ziA{s:Nat}(h:s<=18):rbs s=((rbn s:Nat):Int):=by
 unfold rbs rbn
 split
 · rfl
 · split
   · rfl
   · split
     · rfl
     · rw[if_pos (by omega)];rfl
def rc:List Rn->Nat->Nat
 |[],_=>0
 |y::S,j=>rc S j+if y.s=j then 1 else 0
theorem z5r:∀ (S T:List Rn) (j:Nat),rc (S++T) j=rc S j+rc T j
 |[],T,j=>by simp[rc]
 |y::S,T,j=>by simp only[List.cons_append,rc,z5r S T j];omega
theorem zgD:∀ (S:List Rn) (j:Nat),rc S j<=S.length
 |[],j=>qR
 |y::S,j=>by have:=zgD S j;simp only[rc,qC];split<;>omega
theorem zgC(S:List Rn)(k:Nat)(hk:k<S.length)(j:Nat):rc (S.take (k+1)) j=rc (S.take k) j+if(S.getD k default).s=j then 1 else 0:=by
 rw[List.take_add_one,List.getD,qE hk,z5r];simp[rc]
def wrn(l:Nat->Nat)(x:Rn):List Nat:=cdb (cod l 19 x.s) (l x.s)++put x.e (rbn x.s)
def inl(l:Nat->Nat):List Nat:=ord.map l
def dyb(x1 x2:List Nat)(r:List Rn)(l:Nat->Nat):List Nat:=
 put (upt x1 257 - 257) 5++put (upt x2 1 - 1) 5++put (upt (inl l) 4 - 4) 4++((inl l).take (upt (inl l) 4)).flatMap (λx=>put x 3)++r.flatMap (wrn l)
theorem z2h(l:List Nat)(a:Nat):a<=upt l a/\upt l a<=max a l.length:=by
 have:=z5a l a l.length;unfold upt;exact this
section
variable {B P Zi Zr gl:Nat} {w w':World} {v v' vi vr:Value} {bs bs' l:List Nat} {r:List Rn} {f:Nat->Nat}
end
theorem zg6(l:Nat->Nat)(hl:∀s,l s<=7)(r:List Rn):(r.flatMap (wrn l)).length<=14*r.length:=by
 induction r with
 |nil=>simp
 |cons x r ih=>
  rw[List.flatMap_cons,qA,qC];have:(wrn l x).length<=14:=by
   unfold wrn;rw[qA,z1n,z0c];have:=hl x.s;have:=zaz x.s;omega
  omega
theorem z7p(l:List Nat):(l.flatMap (λx=>put x 3)).length=3*l.length:=by
 induction l with
 |nil=>rfl
 |cons x r ih=>rw[List.flatMap_cons,qA,qC,z0c,ih];omega
theorem z9p.of_kind{l:Nat->Nat}{n:Nat}(hm:May l n)(hb:∀i,l i<=255)(hk:kind l n<=2):z9p l n:=by
 refine⟨hm,?_,hb⟩;rcases Nat.lt_or_ge 32768 (z02 l n) with g|g
 · rw[z0R hm,if_neg (by omega),if_pos g] at hk
   omega
 · exact g
theorem z43(f:Nat->Nat):(inl f).length=19:=by unfold inl;rw[List.length_map];rfl
noncomputable def hfl(c:Nat->Nat)(n L:Nat):Nat->Nat:=pl (z8X c n).choose (z8X c n).choose_spec.choose L
noncomputable def hfm(c:Nat->Nat)(n:Nat):Nat:=(z8X c n).choose
noncomputable def hfe(c:Nat->Nat)(n:Nat):Nat->Nat×Nat:=(z8X c n).choose_spec.choose
theorem zj6(c:Nat->Nat)(n L:Nat):hfl c n L=pl (hfm c n) (hfe c n) L:=rfl
theorem z95(c:Nat->Nat)(n:Nat):z3J c n (hfm c n) (hfe c n):=(z8X c n).choose_spec.choose_spec
theorem z5L(c:Nat->Nat){n L:Nat}(h1:1<=L)(hn:n<=2^L):nds (hfm c n)<=L:=(z41 h1).2 (qK (z95 c n).le hn)
theorem z0C(c:Nat->Nat){n L:Nat}(h1:1<=L)(hn:n<=2^L)(s:Nat):hfl c n L s<=L:=zdq (z95 c n) (z5L c h1 hn) h1 s
theorem ze9(c:Nat->Nat){n L:Nat}(h1:1<=L)(h15:L<=15)(hn:n<=2^L)(h320:n<=320):z9p (hfl c n L) n:=
 z9p.of_kind (zfg (z95 c n) h320 (z5L c h1 hn) h1 h15) (λi=>qK (z0C c h1 hn i) (by omega)) (by
  rw[zj6,zgK (z95 c n) h320 (z5L c h1 hn) h1 h15]
  split
  · omega
  · split<;>omega)
theorem z7V:z9p fxl 288:=⟨⟨by decide,λi _=>by unfold fxl;split<;>(try split)<;>(try split)<;>omega⟩,by decide+kernel,λi=>by unfold fxl;split<;>(try split)<;>(try split)<;>omega⟩
theorem z9a:z9p (λ_=>5) 30:=⟨⟨by decide,λi _=>by show 5<=15;decide⟩,by decide+kernel,λi=>by show 5<=255;decide⟩
noncomputable def ll1(L:List Tk):Nat->Nat:=hfl (cs false (sys L)) 286 15
noncomputable def ll2(L:List Tk):Nat->Nat:=hfl (cs true (sys L)) 30 15
noncomputable def lx1(L:List Tk):List Nat:=(List.range 286).map (ll1 L)
noncomputable def lx2(L:List Tk):List Nat:=(List.range 30).map (ll2 L)
noncomputable def rrs(L:List Tk):List Rn:=pk ((lx1 L).take (upt (lx1 L) 257)++(lx2 L).take (upt (lx2 L) 1))
noncomputable def ll3(L:List Tk):Nat->Nat:=hfl (rc (rrs L)) 19 7
noncomputable def hdd(L:List Tk):List Nat:=dyb (lx1 L) (lx2 L) (rrs L) (ll3 L)
def sfx(L:List Tk):List Nat:=(sys L).flatMap (wsy fxl 288 (λ_=>5) 30)
noncomputable def sbs(L:List Tk):List Nat:=(sys L).flatMap (wsy (ll1 L) 286 (ll2 L) 30)
noncomputable def blk(k:Nat)(L:List Tk)(raw:ByteArray)(last:Bool)(o:Nat):List Nat:=
 if k=0 then stb o raw last else if k=1 then hdb 1 last++sfx L else hdb 2 last++hdd L++sbs L
noncomputable def bkm(k:Nat)(L:List Tk)(raw:ByteArray)(last:Bool)(o:Nat):List Nat:=if k=0 then stm o raw last else blk k L raw last o
theorem zeN{k:Nat}{L:List Tk}{raw:ByteArray}{last:Bool}{o:Nat}(h:k=0->raw.size<=65535):bkm k L raw last o=blk k L raw last o:=by
 unfold bkm
 split
 · rename_i e;rw[e,z6b (h e)];unfold blk;rw[if_pos rfl]
 · rfl
theorem z0S{k:Nat}{L:List Tk}{raw:ByteArray}{last:Bool}{o:Nat}(h:raw.size<=65535):bkm k L raw last o=blk k L raw last o:=zeN (λ_=>h)
theorem IsBys.of_br{w:World}{g n:Nat}{f:Nat->Nat}(h:Br w g n f)(hn:n<=1000)(hf:∀i,f i<=255):IsBys w (some ⟨g,0,none⟩) n ((List.range n).map f):=
 ⟨by simp,by unfold maxLen;omega,λx hx=>by
  obtain⟨i,_,rfl⟩:=List.mem_map.1 hx;exact hf i,.inr ⟨g,0,rfl,h.lt,λi x hx=>by
  have hi:i<n:=by
   have:=(List.getElem?_eq_some_iff.1 hx).1
   simpa using this
  rw[List.getElem?_map,List.getElem?_range hi] at hx;simp only[Option.map_some,Option.some.injEq] at hx;rw[<-hx,Nat.zero_add];exact h.cell hi⟩⟩
theorem zai(L:List Tk):(rrs L).length<=316:=by
 unfold rrs;refine qK (z7w _) ?_
 rw[qA,List.length_take,List.length_take];have h1:(lx1 L).length=286:=(by unfold lx1;simp);have h2:(lx2 L).length=30:=(by unfold lx2;simp);omega
theorem zhm(L:List Tk):(hdd L).length<=5000:=by
 unfold hdd dyb;simp only[qA,z0c,z7p,List.length_take];have h1:=zg6 (ll3 L) (λs=>z0C _ (by decide) (by decide) s) (rrs L);have h2:=zai L;have h3:=z43 (ll3 L);omega
def smb:List Sy->Nat
 |[]=>0
 |y::S=>y.b+smb S
theorem z8n(l1:Nat->Nat)(n1:Nat)(l2:Nat->Nat)(n2:Nat)(y:Sy):(wsy l1 n1 l2 n2 y).length=(if y.d=true then l2 y.n else l1 y.n)+y.b:=by
 unfold wsy;rw[qA,z0c]
 split<;>rw[z1n]
theorem z4H(l1:Nat->Nat)(n1:Nat)(l2:Nat->Nat)(n2:Nat):∀S:List Sy,(S.flatMap (wsy l1 n1 l2 n2)).length=wgh l1 l2 S
 |[]=>rfl
 |y::S=>by rw[List.flatMap_cons,qA,z8n,z4H l1 n1 l2 n2 S];rfl
theorem z55(l1 l2:Nat->Nat):∀S:List Sy,(∀y∈S,(y.d=false->y.n<286)/\(y.d=true->y.n<30))->wgh l1 l2 S=sm (λs=>l1 s*cs false S s) 286+sm (λs=>l2 s*cs true S s) 30+smb S
 |[],_=>by simp[wgh,smb,cs,z1B]
 |y::S,h=>by
  have ih:=z55 l1 l2 S (λz hz=>h z (List.mem_cons_of_mem _ hz));have hy:=h y List.mem_cons_self;have e1:∀b (l:Nat->Nat) n,sm (λs=>l s*cs b (y::S) s) n=sm (λs=>l s*cs b S s) n+sm (λs=>if y.n=s then(if y.d=b then l s else 0) else 0) n:=λb l n=>by
   rw[<-z5h];refine sm_congr n (λs _=> ?_);simp only[cs];by_cases q:y.n=s
   · by_cases r:y.d=b
     · rw[if_pos ⟨r,q⟩,if_pos q,if_pos r,Nat.mul_add,Nat.mul_one]
     · rw[if_neg (λg=>r g.1),if_pos q,if_neg r,Nat.add_zero,Nat.add_zero]
   · rw[if_neg (λg=>q g.2),if_neg q,Nat.add_zero,Nat.add_zero]
  rw[e1,e1];unfold wgh smb;rw[ih];cases hd:y.d with
  |false=>
   rw[zgs (λs=>if(false:Bool)=false then l1 s else 0) (hy.1 hd)];simp only[if_true,Bool.false_eq_true,if_false,ite_self,z1B];omega
  |true=>
   rw[zgs (λs=>if(true:Bool)=true then l2 s else 0) (hy.2 hd)];simp only[if_true,Bool.true_eq_false,if_false,ite_self,z1B];omega
theorem zfB(s:Nat):1<=fxl s/\fxl s<=15:=by unfold fxl;split<;>(try split)<;>(try split)<;>omega
theorem zfd:∀ (S:List Rn) (y:Rn),y∈S->0<rc S y.s
 |x::S,y,h=>by
  simp only[rc];rcases List.mem_cons.1 h with rfl|g
  · rw[if_pos rfl];omega
  · have:=zfd S y g;omega
theorem zd8(L:List Tk):∃r S,rrs L=r::S/\r.s<19:=by
 obtain⟨l,hl⟩:∃l,(lx1 L).take (upt (lx1 L) 257)++(lx2 L).take (upt (lx2 L) 1)=l:=⟨_,rfl⟩
 have h1:(lx1 L).length=286:=(by unfold lx1;simp);have hv:∀v∈l,v<=15:=λv hv=>by
  rw[<-hl] at hv;rcases List.mem_append.1 hv with g|g
  · obtain⟨i,_,rfl⟩:=List.mem_map.1 (List.mem_of_mem_take g)
    exact z0C _ (by decide) (by decide) i
  · obtain⟨i,_,rfl⟩:=List.mem_map.1 (List.mem_of_mem_take g)
    exact z0C _ (by decide) (by decide) i
 have hlen:257<=l.length:=by
  rw[<-hl,qA,List.length_take,h1];have:=(z2h (lx1 L) 257).1;omega
 have hr:rrs L=pk l:=(by unfold rrs;rw[hl]);have hp:=zia (n:=l.length) (L:=[]) l [] (λv g=>by have:=hv v g;omega) (by simp);have ho:=zgM l hv;rw[hr]
 match hq:pk l with
 |[]=>
  rw[hq] at hp;simp only[List.append_nil,List.nil_append,unp,List.length_nil] at hp;rw[if_pos (by omega),if_neg (by omega)] at hp;cases hp
 |r::S=>exact⟨r,S,rfl,by have:=(ho r (by rw[hq];exact List.mem_cons_self)).1;omega⟩
theorem zec(L:List Tk):14+4*3<(hdd L).length:=by
 have h3:=z43 (ll3 L);have hu:=z2h (inl (ll3 L)) 4;obtain⟨r,S,hr,hs⟩:=zd8 L;have hp:0<rc (rrs L) r.s:=zfd _ _ (by rw[hr];exact List.mem_cons_self);have hz:ll3 L r.s≠0:=λq=>by
  have:=(z4v (z95 (rc (rrs L)) 19) (z5L _ (by decide) (by decide)) (by decide:1<=7) hs).1 q;omega
 have hw:1<=((rrs L).flatMap (wrn (ll3 L))).length:=by
  rw[hr,List.flatMap_cons,qA];unfold wrn;rw[qA,z1n];omega
 unfold hdd dyb;simp only[qA,z0c,z7p,List.length_take];omega
def nb:List Nat->Nat
 |[]=>0
 |b::l=>b+2*nb l
theorem z1P:∀l r:List Nat,nb (l++r)=nb l+nb r*2^l.length
 |[],r=>by simp[nb]
 |b::l,r=>by
  simp only[List.cons_append,nb,z1P l r,qC,Nat.pow_succ];rw[Nat.mul_add,<-Nat.mul_assoc,Nat.mul_comm 2 (nb r),Nat.mul_assoc,Nat.mul_comm 2 (2^l.length)];omega
theorem zfn(n:Nat):∀k,nb (put n k)=n%2^k
 |0=>by simp[put,nb,Nat.mod_one]
 |k+1=>by
  rw[zdk,z1P,zfn n k,z0c,Nat.mod_pow_succ];simp only[nb,Nat.mul_zero,Nat.add_zero];rw[Nat.mul_comm (2^k)]
theorem za5:∀ (f:Nat) (o:Nat) (s:ByteArray) (last:Bool),s.size<=65535*(f+1)->(stm o s last).length<=8*s.size+42*(f+1)
 |f,o,s,last,h=>by
  have hp:∀n,pd n<=7:=λn=>by unfold pd;omega
  by_cases h1:s.size<=65535
  · rw[z6b h1,z0g]
    have:=hp (o+3);omega
  · have h2:(s.extract 0 65535).size=65535:=by rw[ByteArray.size_extract];omega
    have h3:(s.extract 65535 s.size).size=s.size - 65535:=(by rw[ByteArray.size_extract];omega);have:=hp (o+3);rw[z7d h1,qA];have hl:(stb o (s.extract 0 65535) false).length=3+pd (o+3)+32+65535*8:=by rw[z0g,h2]
    match f with
    |0=>omega
    |f+1=>
     have ih:=za5 f (o+(stb o (s.extract 0 65535) false).length) (s.extract 65535 s.size) last (by omega);rw[h3] at ih;omega
theorem zeI(k:Nat)(L:List Tk)(raw:ByteArray)(last:Bool)(o:Nat)(hr:k=0->raw.size<=70000)(hn:L.length<=30000)(hm:k≠0->∀t∈L,may t=true):(blk k L raw last o).length<=20000000:=by
 have hs:=z2U L;unfold blk;by_cases h0:k=0
 · rw[if_pos h0,z0g]
   have h1:=hr h0;have:pd (o+3)<=7:=(by unfold pd;omega);omega
 · rw[if_neg h0]
   have hb:∀y∈sys L,y.b<=13:=λy hy=>(zik (hm h0) y hy).1
   split
   · unfold sfx
     rw[qA,z0d];have:=z4h fxl 288 (λ_=>5) 30 z7V.byte (λ_=>by show 5<=255;decide) (sys L) hb;omega
   · unfold sbs
     rw[qA,qA,z0d];have h1:=zhm L;have:=z4h (ll1 L) 286 (ll2 L) 30 (λi=>qK (z0C _ (by decide) (by decide) i) (by decide)) (λi=>qK (z0C _ (by decide) (by decide) i) (by decide)) (sys L) hb;omega
theorem zeM(k:Nat)(L:List Tk)(raw:ByteArray)(last:Bool)(o:Nat)(hr:k=0->raw.size<=70000)(hn:L.length<=30000)(hm:k≠0->∀t∈L,may t=true):(bkm k L raw last o).length<=20000000:=by
 unfold bkm
 split
 · rename_i e
   have:=za5 1 o raw last (by have:=hr e;omega);have:=hr e;omega
 · exact zeI k L raw last o hr hn hm
noncomputable def b3(L:List Tk)(s:ByteArray)(k:Nat):Nat:=(bkm k L s false 0).length
noncomputable def kd(L:List Tk)(s:ByteArray):Nat×Nat:=
 if b3 L s 1<b3 L s 0 then(if b3 L s 2<b3 L s 1 then(2,b3 L s 2) else(1,b3 L s 1)) else(if b3 L s 2<b3 L s 0 then(2,b3 L s 2) else(0,b3 L s 0))
theorem z6B(L:List Tk)(s:ByteArray):(kd L s).1<=2:=by
 unfold kd
 split<;>split<;>simp
theorem zbr(L:List Tk)(s:ByteArray):(kd L s).2=b3 L s (kd L s).1:=by
 unfold kd
 split<;>split<;>rfl
theorem ze4(L:List Tk)(s:ByteArray){k:Nat}(h:k<=2):(kd L s).2<=b3 L s k:=by
 have hc:k=0\/k=1\/k=2:=(by omega);unfold kd
 split<;>split<;>(rcases hc with rfl|rfl|rfl<;>(simp only;omega))
theorem zcr{L:List Tk}{s:ByteArray}{k:Nat}(hs:s.size<=70000)(hn:L.length<=30000)(hm:∀t∈L,may t=true):b3 L s k<=20000000:=zeM k L s false 0 (λ_=>hs) hn (λ_=>hm)
theorem zj3{L:List Tk}{s:ByteArray}(hs:s.size<=70000)(hn:L.length<=30000)(hm:∀t∈L,may t=true):(kd L s).2<=20000000:=by rw[zbr];exact zcr hs hn hm
def seg(L:List Tk)(f t:Nat):List Tk:=(L.drop f).take (t - f)
theorem z3V{L:List Tk}{f t:Nat}(h:t<=L.length):(seg L f t).length=t - f:=by
 unfold seg;rw[List.length_take,List.length_drop];omega
theorem z4n{L:List Tk}{f t:Nat}{x:Tk}(h:x∈seg L f t):x∈L:=List.mem_of_mem_drop (List.mem_of_mem_take h)
theorem zcS(L:List Tk){f t:Nat}(h:f<=t):L.take t=L.take f++seg L f t:=by
 unfold seg
 conv=>lhs;rw[show t=f+(t - f) by omega,List.take_add]
def szt(L:List Tk)(i:Nat):Nat:=Tx.szs (L.take i)
theorem z75(L:List Tk):szt L 0=0:=rfl
theorem z9V(L:List Tk){f t:Nat}(h:f<=t):szt L f+Tx.szs (seg L f t)=szt L t:=by
 unfold szt;rw[zcS L h,Tx.szs_append]
theorem z1L(L:List Tk){f t:Nat}(h:f<=t):szt L f<=szt L t:=by
 have:=z9V L h;omega
theorem z6a{L:List Tk}{n:Nat}(h:L.length<=n):szt L n=Tx.szs L:=by
 unfold szt;rw[List.take_of_length_le h]
noncomputable def kp(L:List Tk)(s:ByteArray)(f t:Nat):Nat×Nat:=kd (seg L f t) (s.extract (szt L f) (szt L t))
def pst(K:Nat->Nat->Nat×Nat)(c:Nat->Nat):Nat->List (Nat×Nat)×(Nat×Nat)
 |0=>([],(c 0,c 1))
 |k+1=>if(K (pst K c k).2.1 (c (k+2))).2<=(K (pst K c k).2.1 (c (k+1))).2+(K (c (k+1)) (c (k+2))).2 then((pst K c k).1,((pst K c k).2.1,c (k+2))) else((pst K c k).1++[(pst K c k).2],(c (k+1),c (k+2)))
def prt(K:Nat->Nat->Nat×Nat)(c:Nat->Nat)(k:Nat):List (Nat×Nat):=(pst K c k).1++[(pst K c k).2]
theorem z5u(K:Nat->Nat->Nat×Nat)(c:Nat->Nat):∀k,(pst K c k).2.2=c (k+1)
 |0=>rfl
 |k+1=>by rw[pst];split<;>rfl
theorem z25(K:Nat->Nat->Nat×Nat)(c:Nat->Nat):∀k,(prt K c k).length<=k+1
 |0=>by simp[prt,pst]
 |k+1=>by
  have ih:=z25 K c k;unfold prt at ih ⊢;rw[qA] at ih;rw[pst]
  split<;>(simp only[qA,qC,List.length_nil] at ih ⊢;omega)
def Chn:Nat->List (Nat×Nat)->Nat->Prop
 |a,[],b=>a=b
 |a,q::l,b=>q.1=a/\a<=q.2/\Chn q.2 l b
theorem Chn.append:∀ {l:List (Nat×Nat)} {r:List (Nat×Nat)} {a b d:Nat},Chn a l b->Chn b r d->Chn a (l++r) d
 |[],_,_,_,_,h,h2=>by cases h;exact h2
 |q::l,_,_,_,_,h,h2=>⟨h.1,h.2.1,Chn.append h.2.2 h2⟩
theorem Chn.le:∀ {l:List (Nat×Nat)} {a b:Nat},Chn a l b->a<=b
 |[],_,_,h=>Nat.le_of_eq h
 |q::l,_,_,h=>qK h.2.1 (Chn.le h.2.2)
def z1q(K:Nat->Nat->Nat×Nat):List (Nat×Nat)->Nat
 |[]=>0
 |q::l=>(K q.1 q.2).2+z1q K l
theorem z0z(K:Nat->Nat->Nat×Nat):∀l r,z1q K (l++r)=z1q K l+z1q K r
 |[],r=>by simp[z1q]
 |q::l,r=>by simp only[List.cons_append,z1q,z0z K l r];omega
def z3G(K:Nat->Nat->Nat×Nat)(c:Nat->Nat):Nat->Nat
 |0=>0
 |k+1=>z3G K c k+(K (c k) (c (k+1))).2
theorem zaD(K:Nat->Nat->Nat×Nat)(c:Nat->Nat)(hc:∀i,c i<=c (i+1)):∀k,Chn (c 0) (pst K c k).1 (pst K c k).2.1/\(pst K c k).2.1<=c k
 |0=>⟨rfl,qR⟩
 |k+1=>by
  obtain⟨h1,h2⟩:=zaD K c hc k;rw[pst]
  split
  · exact⟨h1,qK h2 (hc k)⟩
  · refine⟨Chn.append h1 ⟨rfl,?_,?_⟩,qR⟩
    · rw[z5u];exact qK h2 (hc k)
    · exact z5u K c k
theorem zgJ(K:Nat->Nat->Nat×Nat)(c:Nat->Nat)(hc:∀i,c i<=c (i+1))(k:Nat):Chn (c 0) (prt K c k) (c (k+1)):=by
 obtain⟨h1,h2⟩:=zaD K c hc k;refine Chn.append h1 ⟨rfl,?_,z5u K c k⟩;rw[z5u];exact qK h2 (hc k)
theorem z7q(K:Nat->Nat->Nat×Nat)(c:Nat->Nat):∀k,z1q K (prt K c k)<=z3G K c (k+1)
 |0=>by simp[prt,pst,z1q,z3G]
 |k+1=>by
  have ih:=z7q K c k;have ht:=z5u K c k;unfold prt at ih ⊢;rw[z0z] at ih;rw[z3G];have e:z1q K [(pst K c k).2]=(K (pst K c k).2.1 (c (k+1))).2:=(by rw[<-ht];simp[z1q]);rw[e] at ih;rw[pst]
  split
  · rename_i h
    rw[z0z];show z1q K (pst K c k).1+((K (pst K c k).2.1 (c (k+2))).2+0)<=z3G K c (k+1)+(K (c (k+1)) (c (k+2))).2
    omega
  · rw[z0z,z0z,e]
    show z1q K (pst K c k).1+(K (pst K c k).2.1 (c (k+1))).2+((K (c (k+1)) (c (k+2))).2+0)<=z3G K c (k+1)+(K (c (k+1)) (c (k+2))).2
    omega
def cut(n i:Nat):Nat:=min (1024*i) n
theorem z4K(n i:Nat):cut n i<=cut n (i+1):=by unfold cut;omega
theorem z2E(n:Nat):cut n 0=0:=by unfold cut;omega
def cnk(n:Nat):Nat:=(n - 1) /1024
theorem zbV(n:Nat):cut n (cnk n+1)=n:=by unfold cut cnk;omega
noncomputable def pts(L:List Tk)(s:ByteArray):List (Nat×Nat):=prt (kp L s) (cut L.length) (cnk L.length)
theorem zgI(L:List Tk)(s:ByteArray):Chn 0 (pts L s) L.length:=by
 have h:=zgJ (kp L s) (cut L.length) (z4K L.length) (cnk L.length);rw[z2E,zbV] at h;exact h
theorem zdn(L:List Tk)(s:ByteArray):z1q (kp L s) (pts L s)<=z3G (kp L s) (cut L.length) (cnk L.length+1):=z7q _ _ _
theorem z6k(L:List Tk)(s:ByteArray)(h:L.length<=1024):pts L s=[(0,L.length)]:=by
 have e:cnk L.length=0:=(by unfold cnk;omega);unfold pts;rw[e];simp only[prt,pst,List.nil_append,z2E];rw[show cut L.length 1=L.length by unfold cut;omega]
