/- Texts of one place, one behind the other: BwG, BwH, BwI, BwJ, BwK, BwL, BwM, BwN, BwP, BwR. -/
import Derived.Test.YtacelhaidcmbcaaGreatDoorTMRns
import Derived.Test.YtacelhaidcmbcaaGreatDoorTMPkE
import Derived.BigRegion
import Derived.Test.YtacelhaidcmbcaaGreatDoorTMDrw
import Derived.Laws.Rows
import Derived.Deep.RegionWith
set_option maxHeartbeats 8000000
set_option maxRecDepth 1000000
set_option linter.unusedVariables false
set_option linter.unusedSimpArgs false
namespace Go.Proofs.YtacelhaidcmbcaaGreatDoor.V
open Go.Lib (hid)
open Go Go.RowKit M U
def two(a b:Value)(i:Nat):Value:=if i=0 then a else b
def C2(w:World)(g:Nat)(a b:Value):Prop:=w.rowIs g 74 2 (two a b)
section
variable {w w':World} {g:Nat} {a b:Value}
theorem C2.new(w:World)(a b:Value):C2 (w.alloc (.cells #[a,b] 74)) w.heap.size a b:=⟨#[a,b],heap_alloc_new _ _,rfl,fun i hi=>by
 match i,hi with
 |0,_=>rfl
 |1,_=>rfl⟩
theorem C2.alloc(h:C2 w g a b)(o:Obj):C2 (w.alloc o) g a b:=World.rowIs.alloc h o
theorem C2.other(h:C2 w g a b){x:Addr}(hx:g≠x.block)(u:Value):C2 (w.setCell x u) g a b:=World.rowIs.setOther h hx u
theorem C2.at0(h:C2 w g a b):w.cell? ⟨g,0,none⟩=some a:=World.rowIs.cell h (i:=0) (by omega)
theorem C2.at1(h:C2 w g a b):w.cell? ⟨g,1,none⟩=some b:=World.rowIs.cell h (i:=1) (by omega)
theorem C2.frozen(h:C2 w g a b)(i:Nat):w.frozen? ⟨g,i,none⟩=false:=World.rowIs.frozen h i
theorem C2.put(h:C2 w g a b)(c d:Value):C2 ((w.setCell ⟨g,0,none⟩ c).setCell ⟨g,1,none⟩ d) g c d:=
 World.rowIs.congr (World.rowIs.set (World.rowIs.set h 0 c) 1 d) (fun j hj=>by
  match j,hj with
  |0,_=>rfl
  |1,_=>rfl)
theorem C2.row(h:C2 w g a b):w.heap[g]? =some (.cells #[a,b] 74 (0,0)):=by
 obtain⟨c,h1,h2,h3⟩:=h
 have:c= #[a,b]:=by
  apply Array.ext_getElem?
  intro i
  match i with
  |0=>exact h3 0 (by omega)
  |1=>exact h3 1 (by omega)
  |i+2=>rw[Array.getElem?_eq_none (by omega),Array.getElem?_eq_none (by simp)]
 rw[h1,this]
end
theorem z24:(Tryz.prog.info? 74).map (fun i=>i.size)=some 2:=by kernel_rfl
def fxl(j:Nat):Nat:=if j<144 then 8 else if j<256 then 9 else if j<280 then 7 else 8
structure Fx(w0 w:World)(cb la da:Nat)(f g:Nat→Nat):Prop where
 r:C2 w w0.heap.size (.slice none 0 0) (.slice none 0 0)
 c:C2 w cb (.slice (some ⟨la,0,none⟩) 288 288) (.slice (some ⟨da,0,none⟩) 30 30)
 l:Br w la 288 f
 d:Br w da 30 g
 gc:w0.heap.size<cb
 gl:w0.heap.size<la
 gd:w0.heap.size<da
 nl:cb≠la
 nd:cb≠da
 ne:la≠da
 b:Below w0.heap.size w0 w
section
variable {w0 w:World} {cb la da:Nat} {f g:Nat→Nat}
theorem Fx.setL(h:Fx w0 w cb la da f g)(i x:Nat):Fx w0 (w.setCell ⟨la,i,none⟩ (.int .u8 x)) cb la da (fun j=>if j=i then x else f j) g:=
 ⟨h.r.other (Nat.ne_of_lt h.gl) _,h.c.other h.nl _,h.l.set i x,h.d.other (fun e=>h.ne e.symm) _,h.gc,h.gl,h.gd,h.nl,h.nd,h.ne,h.b.setCell (Nat.le_of_lt h.gl) _⟩
theorem Fx.setD(h:Fx w0 w cb la da f g)(i x:Nat):Fx w0 (w.setCell ⟨da,i,none⟩ (.int .u8 x)) cb la da f (fun j=>if j=i then x else g j):=
 ⟨h.r.other (Nat.ne_of_lt h.gd) _,h.c.other h.nd _,h.l.other h.ne _,h.d.set i x,h.gc,h.gl,h.gd,h.nl,h.nd,h.ne,h.b.setCell (Nat.le_of_lt h.gd) _⟩
theorem Fx.congr{f' g':Nat→Nat}(h:Fx w0 w cb la da f g)(e:∀i,i<288→f i=f' i)(e2:∀i,i<30→g i=g' i):Fx w0 w cb la da f' g':=
 ⟨h.r,h.c,h.l.congr e,h.d.congr e2,h.gc,h.gl,h.gd,h.nl,h.nd,h.ne,h.b⟩
end
theorem z9f(w:World)(o0 o1 o2 o3:Obj):((((w.alloc o0).alloc o1).alloc o2).alloc o3).heap[w.heap.size]? =some o0∧((((w.alloc o0).alloc o1).alloc o2).alloc o3).heap[w.heap.size+1]? =some o1∧((((w.alloc o0).alloc o1).alloc o2).alloc o3).heap[w.heap.size+1+1]? =some o2∧((((w.alloc o0).alloc o1).alloc o2).alloc o3).heap[w.heap.size+1+1+1]? =some o3∧Below w.heap.size w ((((w.alloc o0).alloc o1).alloc o2).alloc o3):=by
 have s0:(w.alloc o0).heap.size=w.heap.size+1:=by simp
 have s1:((w.alloc o0).alloc o1).heap.size=w.heap.size+1+1:=by simp
 have s2:(((w.alloc o0).alloc o1).alloc o2).heap.size=w.heap.size+1+1+1:=by simp
 have a0:=heap_alloc_new w o0;have a1:=heap_alloc_new (w.alloc o0) o1;have a2:=heap_alloc_new ((w.alloc o0).alloc o1) o2;have a3:=heap_alloc_new (((w.alloc o0).alloc o1).alloc o2) o3;rw[s0] at a1;rw[s1] at a2;rw[s2] at a3;refine⟨?_,?_,?_,a3,((((qL).alloc (by omega) _).alloc (by omega) _).alloc (by omega) _)⟩
 · rw[Below.heap_alloc _ _ _ (by omega),Below.heap_alloc _ _ _ (by omega),Below.heap_alloc _ _ _ (by omega)];exact a0
 · rw[Below.heap_alloc _ _ _ (by omega),Below.heap_alloc _ _ _ (by omega)];exact a1
 · rw[Below.heap_alloc _ _ _ (by omega)];exact a2
theorem Fx.start{w w3:World}{cb la da:Nat}(hr:w3.heap[w.heap.size]? =some (.cells #[.slice none 0 0,.slice none 0 0] 74))
 (hc:w3.heap[cb]? =some (.cells #[.slice (some ⟨la,0,none⟩) 288 288,.slice (some ⟨da,0,none⟩) 30 30] 74)) (hl:w3.heap[la]? =some (.cells (madeCells #[.int .u8 0] 288) 5)) (hd:w3.heap[da]? =some (.cells (madeCells #[.int .u8 0] 30) 5))
 (hb:Below w.heap.size w w3) (gc:w.heap.size<cb) (gl:w.heap.size<la) (gd:w.heap.size<da) (nl:cb≠la) (nd:cb≠da) (ne:la≠da):
 Fx w w3.drew cb la da (fun _=>0) (fun _=>0):=
 ⟨⟨_,hr,rfl,fun i hi=>by
   match i,hi with
   |0,_=>rfl
   |1,_=>rfl⟩,⟨_,hc,rfl,fun i hi=>by
   match i,hi with
   |0,_=>rfl
   |1,_=>rfl⟩,⟨_,hl,by simp[size_madeCells],fun i hi=>by simp[madeCells,hi,Nat.mod_one]⟩,⟨_,hd,by simp[size_madeCells],fun i hi=>by simp[madeCells,hi,Nat.mod_one]⟩,gc,gl,gd,nl,nd,ne,hb.drew⟩
theorem Fx.s1(w:World):Fx w ((((w.alloc (.cells #[.slice none 0 0,.slice none 0 0] 74)).alloc (.cells (madeCells #[.int .u8 0] 288) 5)).alloc (.cells (madeCells #[.int .u8 0] 30) 5)).alloc (.cells #[.slice (some ⟨w.heap.size+1,0,none⟩) 288 288,.slice (some ⟨w.heap.size+1+1,0,none⟩) 30 30] 74)).drew (w.heap.size+1+1+1) (w.heap.size+1) (w.heap.size+1+1) (fun _=>0) (fun _=>0):=by
 obtain⟨a0,a1,a2,a3,b⟩:=z9f w (.cells #[.slice none 0 0,.slice none 0 0] 74) (.cells (madeCells #[.int .u8 0] 288) 5) (.cells (madeCells #[.int .u8 0] 30) 5) (.cells #[.slice (some ⟨w.heap.size+1,0,none⟩) 288 288,.slice (some ⟨w.heap.size+1+1,0,none⟩) 30 30] 74);exact Fx.start a0 a3 a1 a2 b (by omega) (by omega) (by omega) (by omega) (by omega) (by omega)
theorem Fx.s2(w:World):Fx w ((((w.alloc (.cells #[.slice none 0 0,.slice none 0 0] 74)).alloc (.cells (madeCells #[.int .u8 0] 288) 5)).alloc (.cells #[.slice (some ⟨w.heap.size+1,0,none⟩) 288 288,.slice (some ⟨w.heap.size+1+1+1,0,none⟩) 30 30] 74)).alloc (.cells (madeCells #[.int .u8 0] 30) 5)).drew (w.heap.size+1+1) (w.heap.size+1) (w.heap.size+1+1+1) (fun _=>0) (fun _=>0):=by
 obtain⟨a0,a1,a2,a3,b⟩:=z9f w (.cells #[.slice none 0 0,.slice none 0 0] 74) (.cells (madeCells #[.int .u8 0] 288) 5) (.cells #[.slice (some ⟨w.heap.size+1,0,none⟩) 288 288,.slice (some ⟨w.heap.size+1+1+1,0,none⟩) 30 30] 74) (.cells (madeCells #[.int .u8 0] 30) 5);exact Fx.start a0 a2 a1 a3 b (by omega) (by omega) (by omega) (by omega) (by omega) (by omega)
theorem Fx.s3(w:World):Fx w ((((w.alloc (.cells #[.slice none 0 0,.slice none 0 0] 74)).alloc (.cells (madeCells #[.int .u8 0] 30) 5)).alloc (.cells (madeCells #[.int .u8 0] 288) 5)).alloc (.cells #[.slice (some ⟨w.heap.size+1+1,0,none⟩) 288 288,.slice (some ⟨w.heap.size+1,0,none⟩) 30 30] 74)).drew (w.heap.size+1+1+1) (w.heap.size+1+1) (w.heap.size+1) (fun _=>0) (fun _=>0):=by
 obtain⟨a0,a1,a2,a3,b⟩:=z9f w (.cells #[.slice none 0 0,.slice none 0 0] 74) (.cells (madeCells #[.int .u8 0] 30) 5) (.cells (madeCells #[.int .u8 0] 288) 5) (.cells #[.slice (some ⟨w.heap.size+1+1,0,none⟩) 288 288,.slice (some ⟨w.heap.size+1,0,none⟩) 30 30] 74);exact Fx.start a0 a3 a2 a1 b (by omega) (by omega) (by omega) (by omega) (by omega) (by omega)
theorem Fx.s4(w:World):Fx w ((((w.alloc (.cells #[.slice none 0 0,.slice none 0 0] 74)).alloc (.cells (madeCells #[.int .u8 0] 30) 5)).alloc (.cells #[.slice (some ⟨w.heap.size+1+1+1,0,none⟩) 288 288,.slice (some ⟨w.heap.size+1,0,none⟩) 30 30] 74)).alloc (.cells (madeCells #[.int .u8 0] 288) 5)).drew (w.heap.size+1+1) (w.heap.size+1+1+1) (w.heap.size+1) (fun _=>0) (fun _=>0):=by
 obtain⟨a0,a1,a2,a3,b⟩:=z9f w (.cells #[.slice none 0 0,.slice none 0 0] 74) (.cells (madeCells #[.int .u8 0] 30) 5) (.cells #[.slice (some ⟨w.heap.size+1+1+1,0,none⟩) 288 288,.slice (some ⟨w.heap.size+1,0,none⟩) 30 30] 74) (.cells (madeCells #[.int .u8 0] 288) 5);exact Fx.start a0 a2 a3 a1 b (by omega) (by omega) (by omega) (by omega) (by omega) (by omega)
theorem Fx.s5(w:World):Fx w ((((w.alloc (.cells #[.slice none 0 0,.slice none 0 0] 74)).alloc (.cells #[.slice (some ⟨w.heap.size+1+1,0,none⟩) 288 288,.slice (some ⟨w.heap.size+1+1+1,0,none⟩) 30 30] 74)).alloc (.cells (madeCells #[.int .u8 0] 288) 5)).alloc (.cells (madeCells #[.int .u8 0] 30) 5)).drew (w.heap.size+1) (w.heap.size+1+1) (w.heap.size+1+1+1) (fun _=>0) (fun _=>0):=by
 obtain⟨a0,a1,a2,a3,b⟩:=z9f w (.cells #[.slice none 0 0,.slice none 0 0] 74) (.cells #[.slice (some ⟨w.heap.size+1+1,0,none⟩) 288 288,.slice (some ⟨w.heap.size+1+1+1,0,none⟩) 30 30] 74) (.cells (madeCells #[.int .u8 0] 288) 5) (.cells (madeCells #[.int .u8 0] 30) 5);exact Fx.start a0 a1 a2 a3 b (by omega) (by omega) (by omega) (by omega) (by omega) (by omega)
theorem Fx.s6(w:World):Fx w ((((w.alloc (.cells #[.slice none 0 0,.slice none 0 0] 74)).alloc (.cells #[.slice (some ⟨w.heap.size+1+1+1,0,none⟩) 288 288,.slice (some ⟨w.heap.size+1+1,0,none⟩) 30 30] 74)).alloc (.cells (madeCells #[.int .u8 0] 30) 5)).alloc (.cells (madeCells #[.int .u8 0] 288) 5)).drew (w.heap.size+1) (w.heap.size+1+1+1) (w.heap.size+1+1) (fun _=>0) (fun _=>0):=by
 obtain⟨a0,a1,a2,a3,b⟩:=z9f w (.cells #[.slice none 0 0,.slice none 0 0] 74) (.cells #[.slice (some ⟨w.heap.size+1+1+1,0,none⟩) 288 288,.slice (some ⟨w.heap.size+1+1,0,none⟩) 30 30] 74) (.cells (madeCells #[.int .u8 0] 30) 5) (.cells (madeCells #[.int .u8 0] 288) 5);exact Fx.start a0 a1 a3 a2 b (by omega) (by omega) (by omega) (by omega) (by omega) (by omega)
theorem zbA(w:World):Calls Tryz.prog 30 #[] w fun e w'=> ∃la da,e=.returned (.agg #[.slice (some ⟨la,0,none⟩) 288 288,.slice (some ⟨da,0,none⟩) 30 30])∧w.heap.size≤la∧w.heap.size≤da∧Br w' la 288 fxl∧Br w' da 30 (fun _=>5)∧Below w.heap.size w w':=by
 have hmk1:∀w,(Instr.makeSlice 40 (.int .i64 288) (.int .i64 288)).run Tryz.prog w=.ok (.slice (some ⟨w.heap.size,0,none⟩) 288 288) (w.alloc (.cells (madeCells #[.int .u8 0] 288) 5)):=fun w=>z19 w 288 (by omega)
 have hmk2:∀w,(Instr.makeSlice 40 (.int .i64 30) (.int .i64 30)).run Tryz.prog w=.ok (.slice (some ⟨w.heap.size,0,none⟩) 30 30) (w.alloc (.cells (madeCells #[.int .u8 0] 30) 5)):=fun w=>z19 w 30 (by omega)
 go_enter Tryz.func30,Tryz.ntmps30;go_wp2_with fail
 go_region
 all_goals go_wp2_with fail
 all_goals clear hmk1 hmk2
 have h0:=Fx.s1 w;generalize w.heap.size+1+1+1=cb at h0 ⊢;generalize w.heap.size+1+1=da at h0 ⊢;generalize w.heap.size+1=la at h0 ⊢;have H0:=hid h0;clear h0;rotate_left;have h0:=Fx.s2 w;generalize w.heap.size+1+1+1=da at h0 ⊢;generalize w.heap.size+1+1=cb at h0 ⊢;generalize w.heap.size+1=la at h0 ⊢;have H0:=hid h0;clear h0;rotate_left;have h0:=Fx.s3 w;generalize w.heap.size+1+1+1=cb at h0 ⊢;generalize w.heap.size+1+1=la at h0 ⊢;generalize w.heap.size+1=da at h0 ⊢;have H0:=hid h0;clear h0;rotate_left;have h0:=Fx.s4 w;generalize w.heap.size+1+1+1=la at h0 ⊢;generalize w.heap.size+1+1=cb at h0 ⊢;generalize w.heap.size+1=da at h0 ⊢;have H0:=hid h0;clear h0;rotate_left;have h0:=Fx.s5 w;generalize w.heap.size+1+1+1=da at h0 ⊢;generalize w.heap.size+1+1=la at h0 ⊢;generalize w.heap.size+1=cb at h0 ⊢;have H0:=hid h0;clear h0;rotate_left;have h0:=Fx.s6 w;generalize w.heap.size+1+1+1=la at h0 ⊢;generalize w.heap.size+1+1=da at h0 ⊢;generalize w.heap.size+1=cb at h0 ⊢;have H0:=hid h0;clear h0;rotate_left
 all_goals (
  go_loopw [2] (fun x wr=> ∃i,x=.int .i64 (i:Nat)∧i≤288∧Fx w wr cb la da (fun j=>if j<i then fxl j else 0) (fun _=>0)) (fun x _=>288 - (intOf x).toNat)
  case atStart=>exact⟨0,rfl,qZ,H0.out.congr (fun i _=>by rw[if_neg (by omega)]) (fun i _=>rfl)⟩
  case round=>
   obtain⟨i,rfl,hi,hf⟩:=hrel;have c0:=hf.c.at0;have HF:=hid hf;by_cases hlt:i<288
   · have d1:decide ((i:Int)<288)=true:=q9T (by omega)
     have d1':decide (i<288)=true:=q9T hlt;have f3:=hf.l.frozen i;have x3:=hf.l.cell hlt
     have hN:∀y,fxl i=y→Hid (Fx w (wr.setCell ⟨la,i,none⟩ (.int .u8 (y:Nat))) cb la da (fun j=>if j<i+1 then fxl j else 0) (fun _=>0)):=fun y hy=>hid ((hf.setL i y).congr (fun j hj=>by
      by_cases e:j=i
      · rw[if_pos e,if_pos (by omega),e,hy]
      · rw[if_neg e]
        by_cases q:j<i
        · rw[if_pos q,if_pos (by omega)]
        · rw[if_neg q,if_neg (by omega)]) (fun _ _=>rfl))
     by_cases h1:i<144
     · have e1:decide ((i:Int)<144)=true:=q9T (by omega)
       have e1':decide (i<144)=true:=q9T h1;have HN:=hN 8 (by unfold fxl;rw[if_pos h1]);clear hN hf h1;go_wp2_with fail;go_roundw
       case rel=>exact⟨i+1,by go_num,by omega,HN.out⟩
       case measure=>(simp[intOf];try omega)
     · have e1:decide ((i:Int)<144)=false:=qF (by omega)
       have e1':decide (i<144)=false:=qF h1;by_cases h2:i<256
       · have e2:decide ((i:Int)<256)=true:=q9T (by omega)
         have e2':decide (i<256)=true:=q9T h2;have HN:=hN 9 (by unfold fxl;rw[if_neg h1,if_pos h2]);clear hN hf h1 h2;go_wp2_with fail;go_roundw
         case rel=>exact⟨i+1,by go_num,by omega,HN.out⟩
         case measure=>(simp[intOf];try omega)
       · have e2:decide ((i:Int)<256)=false:=qF (by omega)
         have e2':decide (i<256)=false:=qF h2;by_cases h3:i<280
         · have e3:decide ((i:Int)<280)=true:=q9T (by omega)
           have e3':decide (i<280)=true:=q9T h3;have HN:=hN 7 (by unfold fxl;rw[if_neg h1,if_neg h2,if_pos h3]);clear hN hf h1 h2 h3;go_wp2_with fail;go_roundw
           case rel=>exact⟨i+1,by go_num,by omega,HN.out⟩
           case measure=>(simp[intOf];try omega)
         · have e3:decide ((i:Int)<280)=false:=qF (by omega)
           have e3':decide (i<280)=false:=qF h3;have HN:=hN 8 (by unfold fxl;rw[if_neg h1,if_neg h2,if_neg h3]);clear hN hf h1 h2 h3;go_wp2_with fail;go_roundw
           case rel=>exact⟨i+1,by go_num,by omega,HN.out⟩
           case measure=>(simp[intOf];try omega)
   · obtain rfl:i=288:=by omega
     have HG:=hid (hf.congr (f':=fxl) (g':=fun _=>0) (fun j hj=>by rw[if_pos hj]) (fun _ _=>rfl));clear hf HF;go_wp2_with fail
     go_loopw [3] (fun x wr=> ∃k,x=.int .i64 (k:Nat)∧k≤30∧Fx w wr cb la da fxl (fun j=>if j<k then 5 else 0)) (fun x _=>30 - (intOf x).toNat)
     case atStart=>exact⟨0,rfl,qZ,HG.out.congr (fun _ _=>rfl) (fun j _=>by rw[if_neg (by omega)])⟩
     case round=>
      obtain⟨k,rfl,hk,hg⟩:=hrel;have c1:=hg.c.at1;have HK:=hid hg;by_cases hlt2:k<30
      · have d2:decide ((k:Int)<30)=true:=q9T (by omega)
        have d2':decide (k<30)=true:=q9T hlt2;have f3:=hg.d.frozen k;have x3:=hg.d.cell hlt2
        have HN:=hid ((hg.setD k 5).congr (g':=fun j=>if j<k+1 then 5 else 0) (fun _ _=>rfl) (fun j hj=>by
         by_cases e:j=k
         · rw[if_pos e,if_pos (by omega)]
         · rw[if_neg e]
           by_cases q:j<k
           · rw[if_pos q,if_pos (by omega)]
           · rw[if_neg q,if_neg (by omega)]))
        clear hg;go_wp2_with fail;go_roundw
        case rel=>exact⟨k+1,by go_num,by omega,HN.out⟩
        case measure=>(simp[intOf];try omega)
      · obtain rfl:k=30:=by omega
        have c0:=hg.c.at0;have r0:=hg.r.at0;have r1:=hg.r.at1;have g0:=hg.r.frozen 0;have g1:=hg.r.frozen 1;have HR:=hid (hg.r.put (.slice (some ⟨la,0,none⟩) 288 288) (.slice (some ⟨da,0,none⟩) 30 30));have HL:=hid ((hg.l.other (a:=⟨w.heap.size,0,none⟩) (fun e=>Nat.ne_of_lt hg.gl e.symm) (.slice (some ⟨la,0,none⟩) 288 288)).other (a:=⟨w.heap.size,1,none⟩) (fun e=>Nat.ne_of_lt hg.gl e.symm) (.slice (some ⟨da,0,none⟩) 30 30));have HD:=hid (((hg.d.congr (f':=fun _=>5) (fun j hj=>by rw[if_pos hj])).other (a:=⟨w.heap.size,0,none⟩) (fun e=>Nat.ne_of_lt hg.gd e.symm) (.slice (some ⟨la,0,none⟩) 288 288)).other (a:=⟨w.heap.size,1,none⟩) (fun e=>Nat.ne_of_lt hg.gd e.symm) (.slice (some ⟨da,0,none⟩) 30 30));have HW:=hid ((hg.b.setCell (p:=⟨w.heap.size,0,none⟩) qR (.slice (some ⟨la,0,none⟩) 288 288)).setCell (p:=⟨w.heap.size,1,none⟩) qR (.slice (some ⟨da,0,none⟩) 30 30));have HQ:=hid (show w.heap.size≤la∧w.heap.size≤da from⟨Nat.le_of_lt hg.gl,Nat.le_of_lt hg.gd⟩);clear hg HG HK;go_wp2_with fail;refine bodyPost_ret (v:=.agg #[.slice (some ⟨la,0,none⟩) 288 288,.slice (some ⟨da,0,none⟩) 30 30]) (results_cell_row rfl _ _ w.heap.size _ _ _ _ rfl HR.out.row Tryz.underlying74 rfl z24) rfl ⟨la,da,rfl,HQ.out.1,HQ.out.2,HL.out,HD.out,HW.out⟩)
end Go.Proofs.YtacelhaidcmbcaaGreatDoor.V
namespace Go.Proofs.YtacelhaidcmbcaaGreatDoor.V
open Go Go.RowKit M U
def cs(b:Bool):List Sy→Nat→Nat
 |[],_=>0
 |y::S,j=>cs b S j+if y.d=b∧y.n=j then 1 else 0
theorem z23(b:Bool):∀ (S T:List Sy) (j:Nat),cs b (S++T) j=cs b S j+cs b T j
 |[],T,j=>by simp[cs]
 |y::S,T,j=>by simp only[List.cons_append,cs,z23 b S T j];omega
theorem z2y(b:Bool):∀ (S:List Sy) (j:Nat),cs b S j≤S.length
 |[],j=>qR
 |y::S,j=>by have:=z2y b S j;simp only[cs,qC];split<;>omega
theorem zbV(b:Bool)(S:List Sy)(k:Nat)(hk:k<S.length)(j:Nat):cs b (S.take (k+1)) j=cs b (S.take k) j+if(S.getD k default).d=b∧(S.getD k default).n=j then 1 else 0:=by
 rw[List.take_add_one,List.getD,qE hk,z23];simp[cs]
theorem z7r{L:List Tk}(hm:∀t∈L,may t=true)(hg:∀t∈L,t.ok):∀y∈sys L,(y.d=false→y.n<286)∧(y.d=true→y.n<30):=by
 intro y hy;unfold sys at hy;rw[List.mem_append,List.mem_flatMap] at hy;rcases hy with⟨t,ht,hy⟩|hy
 · have h1:=hm t ht
   have h2:=(hg t ht).l;unfold sy1 at hy
   split at hy
   · simp only[List.mem_singleton] at hy
     subst hy;exact⟨fun _=>by simp only;omega,fun h=>by cases h⟩
   · rename_i h0
     have hM:isM t=true:=by
      unfold may at h1;rw[Bool.or_eq_true] at h1;rcases h1 with q|q
      · exact absurd (z0v.1 q).1 h0
      · exact q
     have hM2:=z0G.1 hM;have i1:=(z5Z (n:=t.n.toNat) (by omega)).1;have i2:=(z3i (n:=t.d.toNat) (by omega)).1;simp only[List.mem_cons,List.not_mem_nil,or_false] at hy;rcases hy with rfl|rfl
     · exact⟨fun _=>by simp only;omega,fun h=>by cases h⟩
     · exact⟨fun h=>(by cases h),fun _=>by simp only;omega⟩
 · simp only[List.mem_singleton] at hy
   subst hy;exact⟨fun _=>by simp only;omega,fun h=>by cases h⟩
theorem z1h(L:List Tk):(sys L).length≤2*L.length+1:=by
 unfold sys;rw[qA,List.length_singleton];have:=z6Z L;omega
theorem z0f{P:Program}{fn:Func}{p u:Tmp}{ty:TypeId}(h:fn.results= #[.cell p ty,.tmp u])(tmps:Array Value)(w:World)(g:Nat)(t:TypeId)(cs:Array Value)(fr:Nat×Nat)(d:TypeDesc)
 (hp:tmps.getD p undef=.pointer (some ⟨g,0,none⟩)) (hg:w.heap[g]? =some (.cells cs t fr))
 (hu:P.underlying ty=some d) (hd:(match d with|.struct _|.array _ _=>true|_=>false)=true) (hi:(P.info? ty).map (·.size)=some cs.size):
 (results fn tmps).run P w=.ok (.tuple #[.agg cs,tmps.getD u undef]) w:=by
 have hp':tmps[p]?.getD undef=.pointer (some ⟨g,0,none⟩):=by simpa using hp
 simp[results,h,hp',asAddr,run_loadVar_row w g t ty cs fr d hg hu hd hi,Sem.run_bind]
structure Bs(w0 w:World)(lb db bs:Nat)(v:Value)(S:List Sy)(f g:Nat→Nat):Prop where
 r:C2 w w0.heap.size (.slice none 0 0) (.slice none 0 0)
 l:z0Q w lb 286 (fun i=>(f i:Int))
 d:z0Q w db 30 (fun i=>(g i:Int))
 s:Owy bs w v S
 gl:w0.heap.size<lb
 gd:w0.heap.size<db
 ne:lb≠db
 ll:lb<bs
 dl:db<bs
 b:Below w0.heap.size w0 w
section
variable {w0 w:World} {lb db bs:Nat} {v:Value} {S:List Sy} {f g:Nat→Nat}
theorem Bs.setL(h:Bs w0 w lb db bs v S f g)(i x:Nat){f':Nat→Nat}(e:∀j,j<286→f' j=if j=i then x else f j):Bs w0 (w.setCell ⟨lb,i,none⟩ (.int .i64 x)) lb db bs v S f' g:=
 ⟨h.r.other (Nat.ne_of_lt h.gl) _,(h.l.set i x).congr (fun j hj=>by rw[e j hj];split<;>rfl),h.d.other (fun e=>h.ne e.symm) _,h.s.at (fun g hg=>Below.heap_setCell _ _ _ _ (fun e=>by have:=(h.s.lt g hg).1;have:=h.ll;simp only at e;omega)),h.gl,h.gd,h.ne,h.ll,h.dl,h.b.setCell (Nat.le_of_lt h.gl) _⟩
theorem Bs.setD(h:Bs w0 w lb db bs v S f g)(i x:Nat){g':Nat→Nat}(e:∀j,j<30→g' j=if j=i then x else g j):Bs w0 (w.setCell ⟨db,i,none⟩ (.int .i64 x)) lb db bs v S f g':=
 ⟨h.r.other (Nat.ne_of_lt h.gd) _,h.l.other h.ne _,(h.d.set i x).congr (fun j hj=>by rw[e j hj];split<;>rfl),h.s.at (fun g hg=>Below.heap_setCell _ _ _ _ (fun e=>by have:=(h.s.lt g hg).1;have:=h.dl;simp only at e;omega)),h.gl,h.gd,h.ne,h.ll,h.dl,h.b.setCell (Nat.le_of_lt h.gd) _⟩
theorem Bs.congr(h:Bs w0 w lb db bs v S f g){f' g':Nat→Nat}(e:∀j,j<286→f j=f' j)(e2:∀j,j<30→g j=g' j):Bs w0 w lb db bs v S f' g':=
 ⟨h.r,h.l.congr (fun j hj=>by rw[e j hj]),h.d.congr (fun j hj=>by rw[e2 j hj]),h.s,h.gl,h.gd,h.ne,h.ll,h.dl,h.b⟩
theorem Bs.sys{A:Option Addr}{q c:Nat}(h:Bs w0 w lb db bs (.slice A q c) S f g):zev w A q S∧q=S.length:=by
 obtain⟨A',c',e,i⟩:=h.s.sys;simp only[Value.slice.injEq] at e;obtain⟨rfl,rfl,rfl⟩:=e;exact⟨i,rfl⟩
end
theorem z0Q.start2{w w0:World}{r B:Nat}(hr:C2 w r (.slice none 0 0) (.slice none 0 0))(hb:Below B w0 w)(n m:Nat)(hB:B≤w.heap.size):z0Q ((w.alloc (.cells (madeCells #[.int .i64 0] n) 3)).alloc (.cells (madeCells #[.int .i64 0] m) 3)).drew w.heap.size n (fun _=>0)∧z0Q ((w.alloc (.cells (madeCells #[.int .i64 0] n) 3)).alloc (.cells (madeCells #[.int .i64 0] m) 3)).drew (w.heap.size+1) m (fun _=>0)∧C2 ((w.alloc (.cells (madeCells #[.int .i64 0] n) 3)).alloc (.cells (madeCells #[.int .i64 0] m) 3)).drew r (.slice none 0 0) (.slice none 0 0)∧Below B w0 ((w.alloc (.cells (madeCells #[.int .i64 0] n) 3)).alloc (.cells (madeCells #[.int .i64 0] m) 3)).drew:=by
 have s0:(w.alloc (.cells (madeCells #[.int .i64 0] n) 3)).heap.size=w.heap.size+1:=by simp
 have q:=z0Q.made (w.alloc (.cells (madeCells #[.int .i64 0] n) 3)) m;rw[s0] at q;exact⟨(z0Q.made w n).alloc _,q,(hr.alloc _).alloc _,((hb.alloc hB _).alloc (by omega) _).drew⟩
end Go.Proofs.YtacelhaidcmbcaaGreatDoor.V
namespace Go.Proofs.YtacelhaidcmbcaaGreatDoor.V
open Go.Lib (hid)
open Go Go.RowKit M U
theorem zep(A:Option Addr)(n c:Nat)(L:List Tk)(w:World)(h:IsTks w A n L)(hn:n≤100000)(hm:∀t∈L,may t=true)(m1 m2:Nat)(e1 e2:Nat→Nat×Nat)(l1:z2x (cs false (sys L)) 286 m1 e1)(l2:z2x (cs true (sys L)) 30 m2 e2):
 Calls Tryz.prog 31 #[.slice A n c] w fun e w'=> ∃la da,e=.returned (.tuple #[.agg #[.slice (some ⟨la,0,none⟩) 286 286,.slice (some ⟨da,0,none⟩) 30 30],.int .i64 0])∧w.heap.size≤la∧w.heap.size≤da∧Br w' la 286 (pl m1 e1 15)∧Br w' da 30 (pl m2 e2 15)∧Below w.heap.size w w':=by
 have hl:=h.leng;have hin:=z7r hm h.good;have hsl:=z1h L;have HSy:=hid (fun W (hb:Below w.heap.size w W)=>z7s A n c L W (h.below hb) hn hm);obtain⟨S,hS⟩:∃S,sys L=S:=⟨_,rfl⟩
 rw[hS] at l1 l2 hin hsl HSy;obtain⟨q,hq⟩:∃q,S.length=q:=⟨_,rfl⟩
 have hq2:q≤200001:=by omega
 have HQ:=hid hq;have HI:=hid hin;have b1:∀i,cs false S i≤1073741824:=fun i=>by have:=z2y false S i;omega
 have b2:∀i,cs true S i≤1073741824:=fun i=>by have:=z2y true S i;omega
 have d1:nds m1≤15:=(z1d (by omega)).2 (by have:=l1.le;omega);have d2:nds m2≤15:=(z1d (by omega)).2 (by have:=l2.le;omega);have HL1:=hid (show ∀ (W:World) (lb:Nat),z09 W .i64 (some ⟨lb,0,none⟩) 286 (fun i=>(cs false S i:Int))→Calls Tryz.prog 55 #[.slice (some ⟨lb,0,none⟩) 286 286,.int .i64 15] W (z3A W 286 m1 15 e1) from fun W lb hh=>z4G _ 286 286 15 m1 _ e1 W (by omega) b1 hh (by omega) (by omega) l1 d1);have HL2:=hid (show ∀ (W:World) (db:Nat),z09 W .i64 (some ⟨db,0,none⟩) 30 (fun i=>(cs true S i:Int))→Calls Tryz.prog 55 #[.slice (some ⟨db,0,none⟩) 30 30,.int .i64 15] W (z3A W 30 m2 15 e2) from fun W db hh=>z4G _ 30 30 15 m2 _ e2 W (by omega) b2 hh (by omega) (by omega) l2 d2);have HH:=hid h;have HM0:=hid hm;have HL:=hid hl;have hmk1:∀w,(Instr.makeSlice 130 (.int .i64 286) (.int .i64 286)).run Tryz.prog w=.ok (.slice (some ⟨w.heap.size,0,none⟩) 286 286) (w.alloc (.cells (madeCells #[.int .i64 0] 286) 3)):=fun w=>z6M w 286 (by omega)
 have hmk2:∀w,(Instr.makeSlice 130 (.int .i64 30) (.int .i64 30)).run Tryz.prog w=.ok (.slice (some ⟨w.heap.size,0,none⟩) 30 30) (w.alloc (.cells (madeCells #[.int .i64 0] 30) 3)):=fun w=>z6M w 30 (by omega)
 have HK1:=hid hmk1;have HK2:=hid hmk2;clear h hm hl hin hsl hS hq b1 b2 d1 d2 l1 l2 hmk1 hmk2;go_enter Tryz.func31,Tryz.ntmps31;go_wp2_with fail
 go_loopw [4] (fun x wr=> ∃i:Nat,i≤n∧x=.int .i64 i∧C2 wr w.heap.size (.slice none 0 0) (.slice none 0 0)∧Below w.heap.size w wr) (fun x _=>n - (intOf x).toNat)
 case atStart=>exact⟨0,qZ,rfl,C2.new _ _ _,qL⟩
 case round=>
  obtain⟨i,hi,rfl,hr,hb⟩:=hrel;by_cases hin:i<n
  · have d4:decide ((i:Int)<(n:Int))=true:=q9T (by omega)
    have d4':decide (i<n)=true:=q9T hin;have HB:=hid hb;have HR:=hid hr;obtain⟨b,o,rfl,hbl,hc⟩:=(HH.out.below hb).at (by omega);obtain⟨c0,c1,c2⟩:=hc i hin;have hkL:i<L.length:=by rw[HL.out];exact hin
    have hmem:L.getD i default∈L:=by rw[List.getD,qE hkL];exact List.getElem_mem _
    have q0:=HM0.out _ hmem;obtain⟨t,ht⟩:∃t,L.getD i default=t:=⟨_,rfl⟩
    rw[ht] at c0 c1 c2 q0;obtain⟨tl,tn,td⟩:=t;simp only at c0 c1 c2;have hM:=z7E tl tn td;rw[q0] at hM;have HM:=hid hM;have hi2:i≤100000:=by omega
    clear hM q0 hb hc ht hmem hkL hr;go_wp2_with (go_at_call 54;refine(HM.out _).mono ?_;rintro e w1 ⟨rfl,b1⟩;have R1:=hid (World.rowIs.of_block HR.out (b1.block _ (World.rowIs.lt HR.out)));have B1:=hid (HB.out.trans (b1.mono HB.out.size));clear b1);go_roundw
    case rel=>exact⟨i+1,by omega,by go_num,R1.out,B1.out⟩
    case measure=>(simp[intOf];try omega)
  · obtain rfl:i=n:=by omega
    have d4:decide ((i:Int)<(i:Int))=false:=qF (by omega);have d4':decide (i<i)=false:=qF (by omega);have hmk1:=HK1.out;have hmk2:=HK2.out;have HB:=hid hb;have HR:=hid hr;clear hb hr;go_wp2_with fail
    go_region
    all_goals clear hmk1 hmk2
    all_goals have hb:=HB.out
    all_goals have hr:=HR.out
    obtain⟨q1,q2,q3,q4⟩:=z0Q.start2 hr hb 286 30 hb.size
    have F0:C2 (((wr.alloc (.cells (madeCells #[.int .i64 0] 286) 3)).alloc (.cells (madeCells #[.int .i64 0] 30) 3)).drew) w.heap.size (.slice none 0 0) (.slice none 0 0)∧z0Q (((wr.alloc (.cells (madeCells #[.int .i64 0] 286) 3)).alloc (.cells (madeCells #[.int .i64 0] 30) 3)).drew) (wr.heap.size) 286 (fun _=>0)∧z0Q (((wr.alloc (.cells (madeCells #[.int .i64 0] 286) 3)).alloc (.cells (madeCells #[.int .i64 0] 30) 3)).drew) (wr.heap.size+1) 30 (fun _=>0)∧w.heap.size<wr.heap.size∧w.heap.size<wr.heap.size+1∧wr.heap.size≠wr.heap.size+1∧wr.heap.size<(((wr.alloc (.cells (madeCells #[.int .i64 0] 286) 3)).alloc (.cells (madeCells #[.int .i64 0] 30) 3)).drew).heap.size∧wr.heap.size+1<(((wr.alloc (.cells (madeCells #[.int .i64 0] 286) 3)).alloc (.cells (madeCells #[.int .i64 0] 30) 3)).drew).heap.size∧Below w.heap.size w (((wr.alloc (.cells (madeCells #[.int .i64 0] 286) 3)).alloc (.cells (madeCells #[.int .i64 0] 30) 3)).drew):=by
     have s2:(((wr.alloc (.cells (madeCells #[.int .i64 0] 286) 3)).alloc (.cells (madeCells #[.int .i64 0] 30) 3)).drew).heap.size=wr.heap.size+1+1:=by simp
     have s3:=World.rowIs.lt hr;exact⟨q3,q1,q2,by omega,by omega,by omega,by omega,by omega,q4⟩
    clear q1 q2 q3 q4;generalize ((wr.alloc (.cells (madeCells #[.int .i64 0] 286) 3)).alloc (.cells (madeCells #[.int .i64 0] 30) 3)).drew=W2 at F0 ⊢;generalize wr.heap.size+1=db at F0 ⊢;generalize wr.heap.size=lb at F0 ⊢;rotate_left;obtain⟨q1,q2,q3,q4⟩:=z0Q.start2 hr hb 30 286 hb.size
    have F0:C2 (((wr.alloc (.cells (madeCells #[.int .i64 0] 30) 3)).alloc (.cells (madeCells #[.int .i64 0] 286) 3)).drew) w.heap.size (.slice none 0 0) (.slice none 0 0)∧z0Q (((wr.alloc (.cells (madeCells #[.int .i64 0] 30) 3)).alloc (.cells (madeCells #[.int .i64 0] 286) 3)).drew) (wr.heap.size+1) 286 (fun _=>0)∧z0Q (((wr.alloc (.cells (madeCells #[.int .i64 0] 30) 3)).alloc (.cells (madeCells #[.int .i64 0] 286) 3)).drew) (wr.heap.size) 30 (fun _=>0)∧w.heap.size<wr.heap.size+1∧w.heap.size<wr.heap.size∧wr.heap.size+1≠wr.heap.size∧wr.heap.size+1<(((wr.alloc (.cells (madeCells #[.int .i64 0] 30) 3)).alloc (.cells (madeCells #[.int .i64 0] 286) 3)).drew).heap.size∧wr.heap.size<(((wr.alloc (.cells (madeCells #[.int .i64 0] 30) 3)).alloc (.cells (madeCells #[.int .i64 0] 286) 3)).drew).heap.size∧Below w.heap.size w (((wr.alloc (.cells (madeCells #[.int .i64 0] 30) 3)).alloc (.cells (madeCells #[.int .i64 0] 286) 3)).drew):=by
     have s2:(((wr.alloc (.cells (madeCells #[.int .i64 0] 30) 3)).alloc (.cells (madeCells #[.int .i64 0] 286) 3)).drew).heap.size=wr.heap.size+1+1:=by simp
     have s3:=World.rowIs.lt hr;exact⟨q3,q2,q1,by omega,by omega,by omega,by omega,by omega,q4⟩
    clear q1 q2 q3 q4;generalize ((wr.alloc (.cells (madeCells #[.int .i64 0] 30) 3)).alloc (.cells (madeCells #[.int .i64 0] 286) 3)).drew=W2 at F0 ⊢;generalize wr.heap.size+1=lb at F0 ⊢;generalize wr.heap.size=db at F0 ⊢;rotate_left
    all_goals (
     obtain⟨f1,f2,f3,f4,f5,f6,f7,f8,f9⟩:=F0;have HF1:=hid f1;have HF2:=hid f2;have HF3:=hid f3;have HF4:=hid (show w.heap.size<lb∧w.heap.size<db∧lb≠db∧lb<W2.heap.size∧db<W2.heap.size from⟨f4,f5,f6,f7,f8⟩);have HF9:=hid f9;clear f1 f2 f3 f4 f5 f6 f7 f8 f9 hb hr HB HR;go_wp2_with (go_at_call 52;(with_reducible refine(HSy.out W2 HF9.out).mono ?_);rintro e W3 ⟨v3,rfl,o3,b3⟩;obtain⟨A3,c3,rfl,i3⟩:=o3.sys;rw[HQ.out] at o3;have HBs:=hid (Bs.mk (f:=fun _=>0) (g:=fun _=>0) (World.rowIs.of_block HF1.out (b3.block _ (World.rowIs.lt HF1.out))) (HF2.out.below b3 HF2.out.lt) (HF3.out.below b3 HF3.out.lt) o3 HF4.out.1 HF4.out.2.1 HF4.out.2.2.1 HF4.out.2.2.2.1 HF4.out.2.2.2.2 (HF9.out.trans (b3.mono HF9.out.size)));rw[HQ.out];clear o3 i3 b3)
     go_loopw [8] (fun x wr=> ∃k:Nat,k≤q∧x=.int .i64 k∧Bs w wr lb db W2.heap.size (.slice A3 q c3) S (cs false (S.take k)) (cs true (S.take k))) (fun x _=>q - (intOf x).toNat)
     case atStart=>exact⟨0,qZ,rfl,HBs.out⟩
     case round=>
      obtain⟨k,hk,rfl,hB⟩:=hrel;have HBk:=hid hB;have hk3:k≤200001:=by omega
      by_cases hlt:k<q
      · have d5:decide ((k:Int)<(q:Int))=true:=q9T (by omega)
        have d5':decide (k<q)=true:=q9T hlt;obtain⟨b,o,rfl,hbl,hc⟩:=hB.sys.1.at (by omega);obtain⟨c0,c1,c2,c3'⟩:=hc k hlt;have hkL:k<S.length:=by rw[HQ.out];exact hlt
        have hmem:S.getD k default∈S:=by rw[List.getD,qE hkL];exact List.getElem_mem _
        have hin2:=HI.out _ hmem;have t1:=zbV false S k hkL;have t2:=zbV true S k hkL;obtain⟨y,hy⟩:∃y,S.getD k default=y:=⟨_,rfl⟩
        rw[hy] at c0 c1 hin2 t1 t2;obtain⟨yd,yn,ye,yb⟩:=y;simp only at c0 c1 hin2 t1 t2;cases yd with
        |true=>
         have hyn:yn<30:=hin2.2 rfl;have ct:=hB.d.cell hyn;have cf:=hB.d.frozen yn;have hct:=z2y true (S.take k) yn;rw[List.length_take] at hct;obtain⟨u,hu⟩:∃u,cs true (S.take k) yn=u:=⟨_,rfl⟩
         rw[hu] at ct hct;have hu2:u≤200001:=by omega
         have HN:=(hB.setD yn (u+1) (g':=cs true (S.take (k+1))) (fun j hj=>by
          rw[t2 j];by_cases e:j=yn
          · subst e;rw[if_pos ⟨rfl,rfl⟩,if_pos rfl,hu]
          · rw[if_neg (fun hh=>e hh.2.symm),if_neg e,Nat.add_zero])).congr (f':=cs false (S.take (k+1))) (fun j hj=>by rw[t1 j,if_neg (fun hh=>by cases hh.1),Nat.add_zero]) (fun _ _=>rfl)
         rw[show((u+1:Nat):Int)=(u:Int)+1 by omega] at HN;have HN2:=hid HN;clear HN hB hc c2 c3' hkL hmem hin2 t1 t2 hy hu hct;go_wp2_with fail;go_roundw
         case rel=>exact⟨k+1,by omega,by go_num,HN2.out⟩
         case measure=>(simp[intOf];try omega)
        |false=>
         have hyn:yn<286:=hin2.1 rfl;have ct:=hB.l.cell hyn;have cf:=hB.l.frozen yn;have hct:=z2y false (S.take k) yn;rw[List.length_take] at hct;obtain⟨u,hu⟩:∃u,cs false (S.take k) yn=u:=⟨_,rfl⟩
         rw[hu] at ct hct;have hu2:u≤200001:=by omega
         have HN:=(hB.setL yn (u+1) (f':=cs false (S.take (k+1))) (fun j hj=>by
          rw[t1 j];by_cases e:j=yn
          · subst e;rw[if_pos ⟨rfl,rfl⟩,if_pos rfl,hu]
          · rw[if_neg (fun hh=>e hh.2.symm),if_neg e,Nat.add_zero])).congr (g':=cs true (S.take (k+1))) (fun _ _=>rfl) (fun j hj=>by rw[t2 j,if_neg (fun hh=>by cases hh.1),Nat.add_zero])
         rw[show((u+1:Nat):Int)=(u:Int)+1 by omega] at HN;have HN2:=hid HN;clear HN hB hc c2 c3' hkL hmem hin2 t1 t2 hy hu hct;go_wp2_with fail;go_roundw
         case rel=>exact⟨k+1,by omega,by go_num,HN2.out⟩
         case measure=>(simp[intOf];try omega)
      · obtain rfl:k=q:=by omega
        have d5:decide ((k:Int)<(k:Int))=false:=qF (by omega);have d5':decide (k<k)=false:=qF (by omega);have hT:S.take k=S:=List.take_of_length_le (by rw[HQ.out];exact qR);rw[hT] at hB;have HR4:=hid hB.r;have HL4:=hid hB.l;have HD4:=hid hB.d;have HB4:=hid hB.b;clear hB HBk HBs hT
        go_wp2_with (first
         |(go_at_call 55;(with_reducible refine(HL1.out _ lb HL4.out.nums).mono ?_);rintro e W5 ⟨g1,rfl,ge1,br1,b5⟩;have HR5:=hid (World.rowIs.of_block HR4.out (b5.block _ (World.rowIs.lt HR4.out)));have HD5:=hid (HD4.out.below b5 HD4.out.lt);have HB5:=hid (HB4.out.trans (b5.mono HB4.out.size));have HG1:=hid (show w.heap.size≤g1 from qK HB4.out.size ge1);have HS5:=hid (show w.heap.size<wr.heap.size from by have:=World.rowIs.lt HR4.out;exact this);have HGG:=hid (show w.heap.size<g1 from Nat.lt_of_lt_of_le HS5.out ge1);have HBr1:=hid br1;clear ge1 br1 b5)
         |(go_at_call 55;(with_reducible refine(HL2.out _ db HD5.out.nums).mono ?_);rintro e W6 ⟨g2,rfl,ge2,br2,b6⟩;have hr6:=World.rowIs.of_block HR5.out (b6.block _ (World.rowIs.lt HR5.out));have HR6:Hid (C2 W6 w.heap.size (.slice none 0 0) (.slice none 0 0)):=hid hr6;have HB6:=hid (HB5.out.trans (b6.mono HB5.out.size));have HG2:=hid (show w.heap.size<g2 from Nat.lt_of_lt_of_le (World.rowIs.lt HR5.out) ge2);have HBr2:=hid br2;have HBr3:=hid (HBr1.out.below b6 HBr1.out.lt);have r0:=HR6.out.at0;have r1:=HR6.out.at1;have g0:=HR6.out.frozen 0;have g1':=HR6.out.frozen 1;clear ge2 br2 b6 hr6))
        refine bodyPost_ret (v:=.tuple #[.agg #[.slice (some ⟨g1,0,none⟩) 286 286,.slice (some ⟨g2,0,none⟩) 30 30],.int .i64 0]) (z0f (p:=2) (u:=3) (ty:= 74) rfl _ _ w.heap.size _ _ _ _ rfl (HR6.out.put _ _).row Tryz.underlying74 rfl z24) rfl ⟨g1,g2,rfl,HG1.out,Nat.le_of_lt HG2.out,(HBr3.out.other (fun e=>Nat.ne_of_lt HGG.out e.symm) _).other (fun e=>Nat.ne_of_lt HGG.out e.symm) _,(HBr2.out.other (fun e=>Nat.ne_of_lt HG2.out e.symm) _).other (fun e=>Nat.ne_of_lt HG2.out e.symm) _,(HB6.out.setCell qR _).setCell qR _⟩)
end Go.Proofs.YtacelhaidcmbcaaGreatDoor.V
namespace Go.Proofs.YtacelhaidcmbcaaGreatDoor.V
open Go Go.RowKit M U
def wsy(l1:Nat→Nat)(n1:Nat)(l2:Nat→Nat)(n2:Nat)(y:Sy):List Nat:=(if y.d=true then cdb (cod l2 n2 y.n) (l2 y.n) else cdb (cod l1 n1 y.n) (l1 y.n))++put y.e y.b
structure z4s(l:Nat→Nat)(n:Nat):Prop where
 may:May l n
 wt:z03 l n≤32768
 byte:∀i,l i≤255
theorem z4s.erc{l:Nat→Nat}{n:Nat}(h:z4s l n):M.erc l n=0∧z7Q l n=n:=by
 have hk:=z2o h.may;have hw:=h.wt
 have h5:kind l n≠5∧kind l n≠4:=by
  rw[hk];constructor
  · split
    · omega
    · split
      · omega
      · split
        · omega
        · split<;>omega
  · split
    · omega
    · split
      · omega
      · split
        · omega
        · split<;>omega
 have e0:M.erc l n=0:=by unfold M.erc;rw[if_neg h5.1,if_neg h5.2]
 exact⟨e0,by unfold z7Q;rw[if_pos e0]⟩
theorem Crow.at'{w w':World}{b n:Nat}{F G:Nat→Nat}(h:C.Crow w b n F G)(e:w'.heap[b]? =w.heap[b]?):C.Crow w' b n F G:=by
 obtain⟨c,h1,h2⟩:=h;exact⟨c,e.trans h1,h2⟩
theorem Chg.drew{P:Nat}{g g':Option Nat}{w w':World}(h:Chg P g w g' w'):Chg P g w g' w'.drew:=h.trans (Chg.of_below (Below.refl w'.heap.size w').drew)
theorem Bw.apart{B P:Nat}{w w':World}{v:Value}{bs:List Nat}(h:Bw B w P v bs){b:Nat}(hb:w.heap.size≤b)(hb2:b<w'.heap.size):Ap P v.ownBlock w' b:=by
 refine⟨hb2,?_,fun e=> ?_⟩
 · have:=h.lt;omega
 · have:=(World.ownsRow.lt h.ow b e).2;omega
structure Ss(B:Nat)(w:World)(P:Nat)(v:Value)(bs:List Nat)(ba:Nat)(l1:Nat→Nat)(n1 bb:Nat)(l2:Nat→Nat)(n2 Z sb q c:Nat)(S:List Sy):Prop where
 wr:Bw B w P v bs
 a:C.Crow w ba n1 (cod l1 n1) l1
 b:C.Crow w bb n2 (cod l2 n2) l2
 s:Owy Z w (.slice (some ⟨sb,0,none⟩) q c) S
 q:S.length=q
 pa:Ap P v.ownBlock w ba
 pb:Ap P v.ownBlock w bb
 ps:Ap P v.ownBlock w sb
section
variable {B P ba n1 bb n2 Z sb q c:Nat} {w w':World} {v v':Value} {bs bs':List Nat} {l1 l2:Nat→Nat} {S:List Sy}
theorem Ss.chg(h:Ss B w P v bs ba l1 n1 bb l2 n2 Z sb q c S)(k:Chg P v.ownBlock w v'.ownBlock w')(hb:Bw B w' P v' bs'):Ss B w' P v' bs' ba l1 n1 bb l2 n2 Z sb q c S:=
 ⟨hb,Crow.at' h.a (h.pa.chg k).2,Crow.at' h.b (h.pb.chg k).2,h.s.at (fun g hg=>by
  have e:sb=g:=by simpa [Value.ownBlock] using hg
  rw[←e];exact(h.ps.chg k).2),h.q,(h.pa.chg k).1,(h.pb.chg k).1,(h.ps.chg k).1⟩
theorem Ss.drew(h:Ss B w P v bs ba l1 n1 bb l2 n2 Z sb q c S):Ss B w.drew P v bs ba l1 n1 bb l2 n2 Z sb q c S:=
 h.chg (Chg.of_below (Below.refl w.heap.size w).drew) (h.wr.below (Below.refl w.heap.size w).drew)
theorem Ss.cells(h:Ss B w P v bs ba l1 n1 bb l2 n2 Z sb q c S){k:Nat}(hk:k<q):w.cell? ⟨sb,k*4,none⟩=some (.bool (S.getD k default).d)∧w.cell? ⟨sb,k*4+1,none⟩=some (.int .i64 ((S.getD k default).n:Nat))∧w.cell? ⟨sb,k*4+2,none⟩=some (.int .i64 ((S.getD k default).e:Nat))∧w.cell? ⟨sb,k*4+3,none⟩=some (.int .i64 ((S.getD k default).b:Nat)):=by
 obtain⟨A',c',e,i⟩:=h.s.sys;simp only[Value.slice.injEq] at e;obtain⟨rfl,e2,rfl⟩:=e;obtain⟨b,o,e3,_,hc⟩:=i.at (by omega);simp only[Option.some.injEq,Addr.mk.injEq,and_true] at e3;obtain⟨rfl,rfl⟩:=e3;have:=hc k (by omega);simp only[Nat.zero_add] at this;exact this
end
theorem Owy.own{Z:Nat}{w:World}{v:Value}{S:List Sy}(h:Owy Z w v S)(hS:0<S.length):∃sb cap,v=.slice (some ⟨sb,0,none⟩) S.length cap∧Z≤sb∧sb<w.heap.size:=by
 rcases h.2 with⟨_,h0⟩|⟨g,cap,cur,rfl,hZ,hh,_⟩
 · omega
 · exact⟨g,cap,rfl,hZ,(qW.1 hh).1⟩
theorem z8O{L:List Tk}(hm:∀t∈L,may t=true):∀y∈sys L,y.b≤13∧y.e≤32768:=by
 intro y hy;unfold sys at hy;rw[List.mem_append,List.mem_flatMap] at hy;rcases hy with⟨t,ht,hy⟩|hy
 · have h1:=hm t ht
   unfold sy1 at hy
   split at hy
   · simp only[List.mem_singleton] at hy
     subst hy;simp
   · rename_i h0
     have hM:isM t=true:=by
      unfold may at h1;rw[Bool.or_eq_true] at h1;rcases h1 with q|q
      · exact absurd (z0v.1 q).1 h0
      · exact q
     have hM2:=z0G.1 hM;have i1:=(z5Z (n:=t.n.toNat) (by omega)).1;have i2:=(z3i (n:=t.d.toNat) (by omega)).1;have j1:=zi8 _ i1;have j2:=zij _ i2;have x1:lex t.n.toNat≤t.n.toNat:=Nat.sub_le _ _;have x2:dex t.d.toNat≤t.d.toNat:=Nat.sub_le _ _;simp only[List.mem_cons,List.not_mem_nil,or_false] at hy;rcases hy with rfl|rfl
     · exact⟨by simp only;omega,by simp only;omega⟩
     · exact⟨by simp only;omega,by simp only;omega⟩
 · simp only[List.mem_singleton] at hy
   subst hy;simp
theorem zfn(l1:Nat→Nat)(n1:Nat)(l2:Nat→Nat)(n2:Nat)(y:Sy)(h1:l1 y.n≤255)(h2:l2 y.n≤255)(hb:y.b≤13):(wsy l1 n1 l2 n2 y).length≤268:=by
 unfold wsy;rw[qA,z02]
 split<;>rw[z0i]<;>omega
theorem z1D(l1:Nat→Nat)(n1:Nat)(l2:Nat→Nat)(n2:Nat)(h1:∀i,l1 i≤255)(h2:∀i,l2 i≤255):∀ (S:List Sy),(∀y∈S,y.b≤13)→(S.flatMap (wsy l1 n1 l2 n2)).length≤268*S.length
 |[],_=>by simp
 |y::S,hS=>by
  rw[List.flatMap_cons,qA,qC];have:=zfn l1 n1 l2 n2 y (h1 _) (h2 _) (hS y (by simp));have:=z1D l1 n1 l2 n2 h1 h2 S (fun z hz=>hS z (by simp[hz]));omega
theorem zcv(f:Sy→List Nat)(S:List Sy)(k:Nat)(hk:k<S.length):(S.take (k+1)).flatMap f=(S.take k).flatMap f++f (S.getD k default):=by
 rw[List.take_add_one,List.getD,qE hk,List.flatMap_append];simp
end Go.Proofs.YtacelhaidcmbcaaGreatDoor.V
namespace Go.Proofs.YtacelhaidcmbcaaGreatDoor.V
open Go.Lib (hid)
open Go Go.RowKit M U
theorem z2Z{B P:Nat}{v:Value}{bs:List Nat}{w:World}(h:Bw B w P v bs)(A:Option Addr)(n c:Nat)(L:List Tk)(hT:IsTks w A n L)(hn:n≤10000)(hm:∀t∈L,may t=true)
 (A1 A2:Option Addr) (n1 n2 c1 c2:Nat) (l1 l2:Nat→Nat) (H1:z09 w .u8 A1 n1 (fun i=>(l1 i:Int))) (H2:z09 w .u8 A2 n2 (fun i=>(l2 i:Int))) (F1:z4s l1 n1) (F2:z4s l2 n2) (hn1:286≤n1) (hn2:30≤n2) (hl:bs.length≤10000000) (hB:B≤w.heap.size):
 Calls Tryz.prog 29 #[.pointer (some ⟨P,0,none⟩),.slice A n c,.agg #[.slice A1 n1 c1,.slice A2 n2 c2]] w fun e w'=>e=.returned (.tuple #[])∧∃v',Bw B w' P v' (bs++(sys L).flatMap (wsy l1 n1 l2 n2))∧Chg P v.ownBlock w v'.ownBlock w':=by
 have hm1:=F1.may.1;have hm2:=F2.may.1;have hin:=z7r hm hT.good;have hsb:=z8O hm;have hsl:=z1h L;rw[hT.leng] at hsl;have hpos:0<(sys L).length:=by unfold sys;rw[qA,List.length_singleton];omega
 have hR1:=hid (fun W (hb:Below w.heap.size w W)=>show Calls Tryz.prog 51 #[.slice A1 n1 c1] W (C.GotC W n1 (cod l1 n1) l1 0) from by
  have:=C.rcodes_any A1 n1 c1 l1 W (by unfold maxLen;omega) F1.byte (H1.below hb);rw[F1.erc.1,F1.erc.2] at this;exact this)
 have hR2:=hid (fun W (hb:Below w.heap.size w W)=>show Calls Tryz.prog 51 #[.slice A2 n2 c2] W (C.GotC W n2 (cod l2 n2) l2 0) from by
  have:=C.rcodes_any A2 n2 c2 l2 W (by unfold maxLen;omega) F2.byte (H2.below hb);rw[F2.erc.1,F2.erc.2] at this;exact this)
 have HSy:=hid (fun W (hb:Below w.heap.size w W)=>z7s A n c L W (hT.below hb) (by omega) hm);obtain⟨S,hS⟩:∃S,sys L=S:=⟨_,rfl⟩
 rw[hS] at hin hsb hsl hpos HSy ⊢;obtain⟨q,hq⟩:∃q,S.length=q:=⟨_,rfl⟩
 have HQ:=hid (show S.length=q∧0<q from⟨hq,by omega⟩);have HI:=hid hin;have HSB:=hid hsb;have HH:=hid h;have HF:=hid (show z4s l1 n1∧z4s l2 n2 from⟨F1,F2⟩);have HN:=hid (show 286≤n1∧30≤n2∧n1≤320∧n2≤320∧B≤w.heap.size∧bs.length≤10000000∧q≤20001 from⟨hn1,hn2,hm1,hm2,hB,hl,by omega⟩);have b0:=(Below.refl w.heap.size w).alloc qR (.cells #[.slice A1 n1 c1,.slice A2 n2 c2] 74);have x0:=C2.new w (.slice A1 n1 c1) (.slice A2 n2 c2);have HB0:=hid b0;have HX0:=hid x0;have a0:=x0.at0;clear h hT hm H1 H2 F1 F2 hn1 hn2 hl hB hm1 hm2 hin hsb hsl hpos hS hq b0 x0 hn;go_enter Tryz.func29,Tryz.ntmps29
 go_wp2_with (first
  |(go_at_call 51;(with_reducible refine(hR1.out _ HB0.out).mono ?_);rintro e W1 ⟨A3,c3,rfl,z1,z2,z3,b1,z4⟩;obtain⟨ba,rfl,ga,ca⟩:=z4 (by have:=HN.out.1;omega);have HB1:=hid (HB0.out.trans (b1.mono HB0.out.size));have HX1:=hid (World.rowIs.of_block HX0.out (b1.block _ (World.rowIs.lt HX0.out)));have HCa:=hid ca;have HGa:=hid (show w.heap.size<ba from Nat.lt_of_lt_of_le (World.rowIs.lt HX0.out) ga);have a1:W1.cell? ⟨w.heap.size,1,none⟩=some (.slice A2 n2 c2):=C2.at1 HX1.out;clear z1 z2 z3 z4 b1 ga ca)
  |(go_at_call 51;(with_reducible refine(hR2.out _ HB1.out).mono ?_);rintro e W2 ⟨A4,c4,rfl,z1,z2,z3,b2,z4⟩;obtain⟨bb,rfl,gb,cb⟩:=z4 (by have:=HN.out.2.1;omega);have HB2:=hid (HB1.out.trans (b2.mono HB1.out.size));have HCa2:=hid (HCa.out.below b2 HCa.out.lt);have HCb:=hid cb;have HGb:=hid (show w.heap.size<bb from Nat.lt_of_lt_of_le (World.rowIs.lt HX1.out) gb);clear z1 z2 z3 z4 b2 gb cb)
  |(go_at_call 52;(with_reducible refine(HSy.out W2 HB2.out).mono ?_);rintro e W3 ⟨v3,rfl,o3,b3⟩;obtain⟨sb,c5,rfl,zs,gs⟩:=o3.own (by rw[HQ.out.1];exact HQ.out.2);rw[HQ.out.1] at o3;have HB3:=hid (HB2.out.trans (b3.mono HB2.out.size));have HSs:=hid (show Ss B W3 P v bs ba l1 n1 bb l2 n2 W2.heap.size sb q c5 S from⟨HH.out.below HB3.out,HCa2.out.below b3 HCa2.out.lt,HCb.out.below b3 HCb.out.lt,o3,HQ.out.1,Bw.apart HH.out (Nat.le_of_lt HGa.out) (Nat.lt_of_lt_of_le HCa2.out.lt b3.size),Bw.apart HH.out (Nat.le_of_lt HGb.out) (Nat.lt_of_lt_of_le HCb.out.lt b3.size),Bw.apart HH.out (qK HB2.out.size zs) gs⟩);rw[HQ.out.1];clear o3 b3 zs gs))
 go_loopw [11] (fun x wr=> ∃ (k:Nat) (v4:Value),k≤q∧x=.int .i64 k∧Ss B wr P v4 (bs++(S.take k).flatMap (wsy l1 n1 l2 n2)) ba l1 n1 bb l2 n2 W2.heap.size sb q c5 S∧Chg P v.ownBlock w v4.ownBlock wr) (fun x _=>q - (intOf x).toNat)
 case atStart=>exact⟨0,v,qZ,rfl,by simpa using HSs.out,Chg.of_below HB3.out⟩
 case round=>
  obtain⟨k,v4,hk,rfl,hs,hc⟩:=hrel;have HS4:=hid hs;have HC4:=hid hc;by_cases hlt:k<q
  · have d5:decide ((k:Int)<(q:Int))=true:=q9T (by omega)
    have d5':decide (k<q)=true:=q9T hlt;obtain⟨e0,e1,e2,e3⟩:=hs.cells hlt;have hkL:k<S.length:=by rw[HQ.out.1];exact hlt
    have hmem:S.getD k default∈S:=by rw[List.getD,qE hkL];exact List.getElem_mem _
    have hin2:=HI.out _ hmem;have hsb2:=HSB.out _ hmem;have hsu:=zcv (wsy l1 n1 l2 n2) S k hkL;have hlen:=z1D l1 n1 l2 n2 HF.out.1.byte HF.out.2.byte (S.take k) (fun y hy=>(HSB.out y (List.mem_of_mem_take hy)).1);rw[List.length_take] at hlen;obtain⟨y,hy⟩:∃y,S.getD k default=y:=⟨_,rfl⟩
    have hcl:=fun(W:World) (v5:Value) (b5:List Nat) (h5:Ss B W P v5 b5 ba l1 n1 bb l2 n2 W2.heap.size sb q c5 S)=>h5.cells hlt
    rw[hy] at e0 e1 hin2 hsb2 hsu hcl;obtain⟨yd,yn,ye,yb⟩:=y;simp only at e0 e1 hin2 hsb2 hcl;have HCl:=hid hcl;have hk3:k≤20001:=by have:=HN.out.2.2.2.2.2.2;omega
    have hq3:q≤20001:=HN.out.2.2.2.2.2.2;have hL4:(bs++(S.take k).flatMap (wsy l1 n1 l2 n2)).length≤18000000:=by rw[qA];have:=HN.out.2.2.2.2.2.1;omega
    cases yd with
    |true=>
     have hyn:yn<n2:=by have:=hin2.2 rfl;have:=HN.out.2.1;omega
     have f1:=hs.b.cell1 hyn;have f2:=hs.b.cell2 hyn;have hcf:=z5g HF.out.2.may HF.out.2.wt hyn;have hz:=HF.out.2.may.2 yn hyn;have hp:2^l2 yn≤2^15:=Nat.pow_le_pow_right (by omega) hz;have hbits:wsy l1 n1 l2 n2 ⟨true,yn,ye,yb⟩=cdb (cod l2 n2 yn) (l2 yn)++put ye yb:=by unfold wsy;rw[if_pos rfl]
     rw[hbits] at hsu;obtain⟨cc,hcc⟩:∃a,cod l2 n2 yn=a:=⟨_,rfl⟩
     obtain⟨z,hzz⟩:∃a,l2 yn=a:=⟨_,rfl⟩
     rw[hcc] at f1 hcf hsu;rw[hzz] at f2 hz hcf hp hsu;have h32:cc<4294967296:=by omega
     have HCo:=hid (code_any hs.wr cc z h32 hz (by omega) (qK HN.out.2.2.2.2.1 hc.size));have HPu:=hid (fun(W:World) (v5:Value) (h5:Bw B W P v5 (bs++(S.take k).flatMap (wsy l1 n1 l2 n2)++cdb cc z)) (hw5:w.heap.size≤W.heap.size)=>put_any h5 ye yb (by omega) (by omega) (by rw[qA,z0i];omega) (qK HN.out.2.2.2.2.1 hw5));have HSu:=hid hsu;clear hs hc hkL hmem hin2 hsb2 hsu hlen hy hcl hcf hp hbits hcc hzz hL4 HSs e2 e3;go_wp2_with (go_at_call 53;(with_reducible refine HCo.out.mono ?_);rintro e w5 ⟨rfl,v5,b5,k5⟩;have HS5:=hid (HS4.out.chg k5 b5);have HC5:=hid (HC4.out.trans k5);obtain⟨g0,g1,g2,g3⟩:=HCl.out _ _ _ HS5.out;clear b5 k5)
     go_region_with (go_at_call 50;(with_reducible refine(HPu.out w5.drew v5 HS5.out.drew.wr HC5.out.drew.size).mono ?_);rintro e w6 ⟨rfl,v6,b6,k6⟩;have HS6:=hid (HS5.out.drew.chg k6 b6);have HC6:=hid (HC5.out.drew.trans k6);clear b6 k6)
     all_goals
      go_wp2_with fail;go_roundw
      case rel=>exact⟨k+1,v6,by omega,by go_num,by rw[HSu.out,←qD,←qD];exact HS6.out,HC6.out⟩
      case measure=>(simp[intOf];try omega)
    |false=>
     have hyn:yn<n1:=by have:=hin2.1 rfl;have:=HN.out.1;omega
     have f1:=hs.a.cell1 hyn;have f2:=hs.a.cell2 hyn;have hcf:=z5g HF.out.1.may HF.out.1.wt hyn;have hz:=HF.out.1.may.2 yn hyn;have hp:2^l1 yn≤2^15:=Nat.pow_le_pow_right (by omega) hz;have hbits:wsy l1 n1 l2 n2 ⟨false,yn,ye,yb⟩=cdb (cod l1 n1 yn) (l1 yn)++put ye yb:=by unfold wsy;rw[if_neg (by simp)]
     rw[hbits] at hsu;obtain⟨cc,hcc⟩:∃a,cod l1 n1 yn=a:=⟨_,rfl⟩
     obtain⟨z,hzz⟩:∃a,l1 yn=a:=⟨_,rfl⟩
     rw[hcc] at f1 hcf hsu;rw[hzz] at f2 hz hcf hp hsu;have h32:cc<4294967296:=by omega
     have HCo:=hid (code_any hs.wr cc z h32 hz (by omega) (qK HN.out.2.2.2.2.1 hc.size));have HPu:=hid (fun(W:World) (v5:Value) (h5:Bw B W P v5 (bs++(S.take k).flatMap (wsy l1 n1 l2 n2)++cdb cc z)) (hw5:w.heap.size≤W.heap.size)=>put_any h5 ye yb (by omega) (by omega) (by rw[qA,z0i];omega) (qK HN.out.2.2.2.2.1 hw5));have HSu:=hid hsu;clear hs hc hkL hmem hin2 hsb2 hsu hlen hy hcl hcf hp hbits hcc hzz hL4 HSs e2 e3;go_wp2_with (go_at_call 53;(with_reducible refine HCo.out.mono ?_);rintro e w5 ⟨rfl,v5,b5,k5⟩;have HS5:=hid (HS4.out.chg k5 b5);have HC5:=hid (HC4.out.trans k5);obtain⟨g0,g1,g2,g3⟩:=HCl.out _ _ _ HS5.out;clear b5 k5)
     go_region_with (go_at_call 50;(with_reducible refine(HPu.out w5.drew v5 HS5.out.drew.wr HC5.out.drew.size).mono ?_);rintro e w6 ⟨rfl,v6,b6,k6⟩;have HS6:=hid (HS5.out.drew.chg k6 b6);have HC6:=hid (HC5.out.drew.trans k6);clear b6 k6)
     all_goals
      go_wp2_with fail;go_roundw
      case rel=>exact⟨k+1,v6,by omega,by go_num,by rw[HSu.out,←qD,←qD];exact HS6.out,HC6.out⟩
      case measure=>(simp[intOf];try omega)
  · obtain rfl:k=q:=by omega
    have d5:decide ((k:Int)<(k:Int))=false:=qF (by omega);have d5':decide (k<k)=false:=qF (by omega);clear hs hc;go_wp2_with fail;go_end0;exact⟨rfl,v4,by have:=HS4.out.wr;rw[List.take_of_length_le (by rw[HQ.out.1];exact qR)] at this;exact this,HC4.out⟩
end Go.Proofs.YtacelhaidcmbcaaGreatDoor.V
namespace Go.Proofs.YtacelhaidcmbcaaGreatDoor.V
open Go Go.RowKit M U
def Rok(r:Rn):Prop:=r.s≤18∧r.e≤127
theorem zhf(n:Nat):∀r∈zrs n,Rok r:=by
 induction n using Nat.strongRecOn with
 |_ n ih=>
  intro r hr;by_cases h:11≤n
  · rw[z1n h,List.mem_cons] at hr
    rcases hr with rfl|hr
    · exact⟨qR,by simp only;omega⟩
    · exact ih _ (by omega) r hr
  · by_cases h3:3≤n
    · rw[z1m h h3,List.mem_singleton] at hr
      subst hr;exact⟨by simp only;omega,by simp only;omega⟩
    · rw[z17 h3] at hr
      rw[List.eq_of_mem_replicate hr];exact⟨by simp only;omega,by simp only;omega⟩
theorem zgd(v:Nat)(hv:v≤15)(n:Nat):∀r∈z6H v n,Rok r:=by
 induction n using Nat.strongRecOn with
 |_ n ih=>
  intro r hr;by_cases h:3≤n
  · rw[z11 h,List.mem_cons] at hr
    rcases hr with rfl|hr
    · exact⟨by simp only;omega,by simp only;omega⟩
    · exact ih _ (by omega) r hr
  · rw[z0L h] at hr
    rw[List.eq_of_mem_replicate hr];exact⟨by simp only;omega,by simp only;omega⟩
theorem zdp:∀l:List Nat,(∀v∈l,v≤15)→∀r∈pk l,Rok r:=by
 intro l;generalize hn:l.length=n
 induction n using Nat.strongRecOn generalizing l with
 |_ n ih=>
  cases l with
  |nil=>intro _ r hr;rw[z4b] at hr;cases hr
  |cons v l=>
   intro hl r hr;rw[z2g,List.mem_append] at hr;have hv:=hl v (by simp);rcases hr with hr|hr
   · unfold one at hr
     split at hr
     · exact zhf _ r hr
     · unfold oth at hr
       rw[List.mem_cons] at hr;rcases hr with rfl|hr
       · exact⟨by simp only;omega,by simp only;omega⟩
       · exact zgd v hv _ r hr
   · rw[qC] at hn
     exact ih (l.drop (ru v l)).length (by rw[List.length_drop];omega) _ rfl (fun x hx=>hl x (by simp[List.mem_of_mem_drop hx])) r hr
def rbn(s:Nat):Nat:=if s<16 then 0 else if s=16 then 2 else if s=17 then 3 else 7
theorem z7F(s:Nat):rbn s≤7:=by
 unfold rbn
 repeat' split
 all_goals omega
theorem zeI{s:Nat}(h:s≤18):rbs s=((rbn s:Nat):Int):=by
 unfold rbs rbn
 split
 · rfl
 · split
   · rfl
   · split
     · rfl
     · rw[if_pos (by omega)];rfl
def rc:List Rn→Nat→Nat
 |[],_=>0
 |y::S,j=>rc S j+if y.s=j then 1 else 0
theorem z5O:∀ (S T:List Rn) (j:Nat),rc (S++T) j=rc S j+rc T j
 |[],T,j=>by simp[rc]
 |y::S,T,j=>by simp only[List.cons_append,rc,z5O S T j];omega
theorem zao:∀ (S:List Rn) (j:Nat),rc S j≤S.length
 |[],j=>qR
 |y::S,j=>by have:=zao S j;simp only[rc,qC];split<;>omega
theorem zan(S:List Rn)(k:Nat)(hk:k<S.length)(j:Nat):rc (S.take (k+1)) j=rc (S.take k) j+if(S.getD k default).s=j then 1 else 0:=by
 rw[List.take_add_one,List.getD,qE hk,z5O];simp[rc]
def wrn(l:Nat→Nat)(x:Rn):List Nat:=cdb (cod l 19 x.s) (l x.s)++put x.e (rbn x.s)
def inl(l:Nat→Nat):List Nat:=ord.map l
def dyb(x1 x2:List Nat)(r:List Rn)(l:Nat→Nat):List Nat:=
 put (upt x1 257 - 257) 5++put (upt x2 1 - 1) 5++put (upt (inl l) 4 - 4) 4++((inl l).take (upt (inl l) 4)).flatMap (fun x=>put x 3)++r.flatMap (wrn l)
theorem z1f(l:List Nat)(a:Nat):a≤upt l a∧upt l a≤max a l.length:=by
 have:=z3W l a l.length;unfold upt;exact this
theorem z3U{ops:Array Oper}{rest:List Oper}{o:Oper}{a:Act}{w:World}{Q:Exit→Act→World→Prop}(hgd:o.guard=none)(s x:Operand)
 (ho:o.op=.call {callee:=.builtin .append,args:= #[s,x],argTypes:= #[40,40]}) (B:Nat) (v:Value) (l:List Nat) (hs:a.eval s=v) (h:Owb B w v l) (b off c:Nat) (k:Nat) (ys:List Nat) (hys:ys.length=k)
 (hx:a.eval x=.slice (some ⟨b,off,none⟩) k c) (hc:∀i,i<k→w.cell? ⟨b,off+i,none⟩=some (.int .u8 (ys.getD i 0:Nat))) (hL:l.length+k≤30000000) (hB:B≤w.heap.size)
 (hK:∀v' w',Owb B w' v' (l++ys)→w.grownBy w' v.ownBlock→Below B w w'→wpList Tryz.prog ops Q rest (a.put o.dst v') w'):wpList Tryz.prog ops Q (o::rest) a w:=
 wpList_plain hgd fun K hK'=>by
  obtain⟨i,h1,h2,h3,h4⟩:=U.info_of U.byteInfo
  obtain⟨v',w',r1,r2,r3,_⟩:=run_append_own (P:= Tryz.prog) w B 40 o.type 5 i _ 1 1 Tryz.underlying40 h1 h2 h3 h4 rfl (by decide) v l.length (clb l) h ⟨b,off,none⟩ k c (clb ys) (by rw[z1u,hys,Nat.mul_one])
   (fun j u hu=>by
    rw[z0o];unfold clb at hu;rw[List.getElem?_map] at hu
    have hj:j<ys.length:=by
     rcases Nat.lt_or_ge j ys.length with g|g
     · exact g
     · rw[List.getElem?_eq_none g] at hu;cases hu
    rw[qE hj] at hu;have:=hc j (by omega);rw[List.getD,qE hj] at this;simp only[Option.map_some,Option.some.injEq] at hu;rw[←hu];exact this) (by intro u hu;unfold clb at hu;obtain⟨z,_,rfl⟩:=List.mem_map.1 hu;rfl) (by unfold maxLen;omega) (by omega) hB
  unfold Oper.wp execOp;simp only[ho,resolve,invoke,builtin,Sem.run_bind,Sem.run_pure,Result.andThen_ok,List.map_toArray,List.map_cons,List.map_nil,hs,hx,r1];refine hK' _ _ (hK v' w' ?_ r3 ((Below.refl _ w).grown r3 hB (fun k hk=>(World.ownsRow.lt h k hk).1)));unfold Owb;rw[qA,z14,hys];exact r2
structure Ds(B:Nat)(w:World)(P:Nat)(v:Value)(bs:List Nat)(Zi:Nat)(vi:Value)(l:List Nat)(Zr:Nat)(vr:Value)(r:List Rn)(gl:Nat)(f:Nat→Nat):Prop where
 wr:Bw B w P v bs
 i:Owb Zi w vi l
 r:Owr Zr w vr r
 l:Br w gl 19 f
 pi:∀g,vi.ownBlock=some g→Ap P v.ownBlock w g
 pr:∀g,vr.ownBlock=some g→Ap P v.ownBlock w g
 pl:Ap P v.ownBlock w gl
section
variable {B P Zi Zr gl:Nat} {w w':World} {v v' vi vr:Value} {bs bs' l:List Nat} {r:List Rn} {f:Nat→Nat}
theorem Ds.chg(h:Ds B w P v bs Zi vi l Zr vr r gl f)(k:Chg P v.ownBlock w v'.ownBlock w')(hb:Bw B w' P v' bs'):Ds B w' P v' bs' Zi vi l Zr vr r gl f:=
 ⟨hb,h.i.at fun g hg=>((h.pi g hg).chg k).2,h.r.at fun g hg=>((h.pr g hg).chg k).2,h.l.at' (h.pl.chg k).2,fun g hg=>((h.pi g hg).chg k).1,fun g hg=>((h.pr g hg).chg k).1,(h.pl.chg k).1⟩
theorem Ds.below(h:Ds B w P v bs Zi vi l Zr vr r gl f)(hb:Below w.heap.size w w'):Ds B w' P v bs Zi vi l Zr vr r gl f:=h.chg (Chg.of_below hb) (h.wr.below hb)
theorem Ds.drew(h:Ds B w P v bs Zi vi l Zr vr r gl f):Ds B w.drew P v bs Zi vi l Zr vr r gl f:=h.below (Below.refl w.heap.size w).drew
theorem Ds.inc{A:Option Addr}{c n:Nat}(h:Ds B w P v bs Zi (.slice A n c) l Zr vr r gl f)(hl:l.length=n)(hok:∀x∈l,x≤255)(hm:n≤1000):IsBys w A n l:=by
 obtain⟨A',c',e,i⟩:=h.i.bys hok (by unfold maxLen;omega);rw[hl] at e i;simp only[Value.slice.injEq] at e;obtain⟨rfl,_,rfl⟩:=e;exact i
theorem Ds.rns{A:Option Addr}{c n:Nat}(h:Ds B w P v bs Zi vi l Zr (.slice A n c) r gl f)(hl:r.length=n)(hok:∀x∈r,Rok x)(hm:n≤1000):z3T w A n r:=by
 obtain⟨A',c',e,i⟩:=h.r.rns (fun x hx=>by have:=hok x hx;unfold Rok at this;omega) (by unfold maxLen;omega);rw[hl] at e i;simp only[Value.slice.injEq] at e;obtain⟨rfl,_,rfl⟩:=e;exact i
end
theorem IsBys.first{w:World}{la n a:Nat}{x:List Nat}(H:IsBys w (some ⟨la,0,none⟩) n x)(ha:a≤n):∀i,i<a→w.cell? ⟨la,0+i,none⟩=some (.int .u8 ((x.take a).getD i 0:Nat)):=by
 intro i hi;obtain⟨b,o,e,_,hc⟩:=H.at (by omega);simp only[Option.some.injEq,Addr.mk.injEq,and_true] at e;obtain⟨rfl,rfl⟩:=e;rw[hc i (by omega),List.getD,List.getD,List.getElem?_take,if_pos hi]
theorem IsBys.cell0{w:World}{la n:Nat}{x:List Nat}(H:IsBys w (some ⟨la,0,none⟩) n x){i:Nat}(hi:i<n):w.cell? ⟨la,i,none⟩=some (.int .u8 (x.getD i 0:Nat)):=by
 obtain⟨b,o,e,_,hc⟩:=H.at (by omega);simp only[Option.some.injEq,Addr.mk.injEq,and_true] at e;obtain⟨rfl,rfl⟩:=e;have:=hc i hi;rw[Nat.zero_add] at this;exact this
theorem z9I(l:Nat→Nat)(hl:∀s,l s≤7)(r:List Rn):(r.flatMap (wrn l)).length≤14*r.length:=by
 induction r with
 |nil=>simp
 |cons x r ih=>
  rw[List.flatMap_cons,qA,qC]
  have:(wrn l x).length≤14:=by
   unfold wrn;rw[qA,z0i,z02];have:=hl x.s;have:=z7F x.s;omega
  omega
theorem z2D(l:List Nat):(l.flatMap (fun x=>put x 3)).length=3*l.length:=by
 induction l with
 |nil=>rfl
 |cons x r ih=>rw[List.flatMap_cons,qA,qC,z02,ih];omega
theorem zax(l:List Nat)(k:Nat)(hk:k<l.length):(l.take (k+1)).flatMap (fun x=>put x 3)=(l.take k).flatMap (fun x=>put x 3)++put (l.getD k 0) 3:=by
 rw[List.take_add_one,List.getD,qE hk,List.flatMap_append];simp
theorem zcw(f:Nat→Nat)(S:List Rn)(k:Nat)(hk:k<S.length):(S.take (k+1)).flatMap (wrn f)=(S.take k).flatMap (wrn f)++wrn f (S.getD k default):=by
 rw[List.take_add_one,List.getD,qE hk,List.flatMap_append];simp
theorem z4s.of_kind{l:Nat→Nat}{n:Nat}(hm:May l n)(hb:∀i,l i≤255)(hk:kind l n≤2):z4s l n:=by
 refine⟨hm,?_,hb⟩;rcases Nat.lt_or_ge 32768 (z03 l n) with g|g
 · rw[z2o hm,if_neg (by omega),if_pos g] at hk
   omega
 · exact g
theorem z2p(f:Nat→Nat):(inl f).length=19:=by unfold inl;rw[List.length_map];rfl
theorem zib{f:Nat→Nat}(h:∀s,f s≤7):∀x∈inl f,x≤7:=by
 intro x hx;unfold inl at hx;obtain⟨y,_,rfl⟩:=List.mem_map.1 hx;exact h y
theorem zds(f:Nat→Nat)(k:Nat)(hk:k<19):(ord.take (k+1)).map f=(ord.take k).map f++[f (ord.getD k 0)]:=by
 rw[List.take_add_one,List.map_append,List.getD,qE (show k<ord.length from hk)];simp
theorem zhQ:∀k,k<19→ord.getD k 0≤18:=by decide
end Go.Proofs.YtacelhaidcmbcaaGreatDoor.V
namespace Go.Proofs.YtacelhaidcmbcaaGreatDoor.V
open Go.Lib (hid)
open Go Go.RowKit M U
theorem z72{B P:Nat}{v:Value}{bs:List Nat}{w:World}(h:Bw B w P v bs)(la da:Nat)(x1 x2:List Nat)(H1:IsBys w (some ⟨la,0,none⟩) 286 x1)(H2:IsBys w (some ⟨da,0,none⟩) 30 x2)(hx1:∀y∈x1,y≤15)(hx2:∀y∈x2,y≤15)
 (r:List Rn) (hr:pk (x1.take (upt x1 257)++x2.take (upt x2 1))=r) (m:Nat) (e:Nat→Nat×Nat) (hlv:z2x (rc r) 19 m e) (hl:bs.length≤10000000) (hB:B≤w.heap.size):
 Calls Tryz.prog 32 #[.pointer (some ⟨P,0,none⟩),.agg #[.slice (some ⟨la,0,none⟩) 286 286,.slice (some ⟨da,0,none⟩) 30 30]] w fun e1 w'=>e1=.returned (.tuple #[])∧∃v',Bw B w' P v' (bs++dyb x1 x2 r (pl m e 7))∧Chg P v.ownBlock w v'.ownBlock w':=by
 have u1:=z1f x1 257;have u2:=z1f x2 1;rw[H1.leng] at u1;rw[H2.leng] at u2;have HU1:=hid (show ∀W,Below w.heap.size w W→Calls Tryz.prog 56 #[.slice (some ⟨la,0,none⟩) 286 286,.int .i64 257] W (fun e w'=>e=.returned (.int .i64 (upt x1 257:Nat))∧w'=W) from fun W hb=>(z4w (some ⟨la,0,none⟩) 286 286 x1 257 W (H1.below hb) (by omega) (by omega)).mono fun _ _ hh=>⟨hh.1,hh.2.symm⟩);have HU2:=hid (show ∀W,Below w.heap.size w W→Calls Tryz.prog 56 #[.slice (some ⟨da,0,none⟩) 30 30,.int .i64 1] W (fun e w'=>e=.returned (.int .i64 (upt x2 1:Nat))∧w'=W) from fun W hb=>(z4w (some ⟨da,0,none⟩) 30 30 x2 1 W (H2.below hb) (by omega) (by omega)).mono fun _ _ hh=>⟨hh.1,hh.2.symm⟩);have hdyb:dyb x1 x2 r (pl m e 7)=put (upt x1 257 - 257) 5++put (upt x2 1 - 1) 5++put (upt (inl (pl m e 7)) 4 - 4) 4++((inl (pl m e 7)).take (upt (inl (pl m e 7)) 4)).flatMap (fun x=>put x 3)++r.flatMap (wrn (pl m e 7)):=rfl;obtain⟨a,ha⟩:∃a,upt x1 257=a:=⟨_,rfl⟩
 obtain⟨b,hb⟩:∃a,upt x2 1=a:=⟨_,rfl⟩
 rw[ha] at u1 hr HU1 hdyb;rw[hb] at u2 hr HU2 hdyb;have hb1:a≤286:=by omega
 have hb2:b≤30:=by omega
 have hb3:257≤a:=u1.1;have hb4:1≤b:=u2.1;obtain⟨y1,hy1⟩:∃y,x1.take a=y:=⟨_,rfl⟩
 obtain⟨y2,hy2⟩:∃y,x2.take b=y:=⟨_,rfl⟩
 have l1:y1.length=a:=by rw[←hy1,List.length_take,H1.leng];omega
 have l2:y2.length=b:=by rw[←hy2,List.length_take,H2.leng];omega
 have HC1:=hid (fun W (hb:Below w.heap.size w W)=>IsBys.first (a:=a) (H1.below hb) (by omega));have HC2:=hid (fun W (hb:Below w.heap.size w W)=>IsBys.first (a:=b) (H2.below hb) (by omega));rw[hy1] at HC1 hr;rw[hy2] at HC2 hr
 have hall:∀y∈y1++y2,y≤15:=fun y hy=>by
  rcases List.mem_append.1 hy with q|q
  · rw[←hy1] at q;exact hx1 y (List.mem_of_mem_take q)
  · rw[←hy2] at q;exact hx2 y (List.mem_of_mem_take q)
 have hrk:=zdp _ hall;have hrl:=z4c (y1++y2);rw[hr] at hrk hrl;rw[qA,l1,l2] at hrl
 have HPk:=hid (show ∀ (W:World) (A:Option Addr) (c:Nat),IsBys W A (a+b) (y1++y2)→Calls Tryz.prog 57 #[.slice A (a+b:Nat) c] W (RnP W r) from fun W A c hh=>by
  rw[←hr];exact zaa A (a+b) c _ W hh (by omega) (fun i hi=>hall _ (by rw[List.getD,qE (by rw[qA];omega)];exact List.getElem_mem _)))
 have HY:=hid (show(∀y∈y1++y2,y≤15)∧y1.length=a∧y2.length=b from⟨hall,l1,l2⟩);have hnd:nds m≤7:=(z1d (by omega)).2 (by have:=hlv.le;omega);have HLe:=hid (show ∀ (W:World) (cb:Nat),z09 W .i64 (some ⟨cb,0,none⟩) 19 (fun i=>(rc r i:Int))→Calls Tryz.prog 55 #[.slice (some ⟨cb,0,none⟩) 19 19,.int .i64 7] W (z3A W 19 m 7 e) from fun W cb hh=>z4G _ 19 19 7 m _ e W (by omega) (fun i=>by have:=zao r i;omega) hh (by omega) (by omega) hlv hnd);have hple:=fun s=>z90 hlv hnd (by omega) s
 have hplm:=zaD hlv (by omega) hnd (by omega) (by omega);have hplk:=zaE hlv (by omega) hnd (by omega) (by omega);obtain⟨q,hq⟩:∃q,r.length=q:=⟨_,rfl⟩
 rw[hq] at hrl;have HR:=hid (show(∀x∈r,Rok x)∧r.length=q∧q≤316 from⟨hrk,hq,by omega⟩);have hfine:z4s (pl m e 7) 19:=z4s.of_kind hplm (fun i=>qK (hple i) (by omega)) (by rw[hplk];split;omega;split<;>omega);obtain⟨f,hf⟩:∃f,pl m e 7=f:=⟨_,rfl⟩
 rw[hf] at hple hfine hdyb ⊢;have HF:=hid hf;have HPl:=hid (show(∀s,f s≤7)∧z4s f 19 from⟨hple,hfine⟩);obtain⟨IL,hIL⟩:∃x,inl f=x:=⟨_,rfl⟩
 have HIL:=hid (show(ord.take 19).map f=IL∧IL.length=19∧∀x∈IL,x≤7 from⟨hIL,by rw[←hIL];exact z2p f,by rw[←hIL];exact zib hple⟩);rw[hIL] at hdyb;obtain⟨kk,hkk⟩:∃k,upt IL 4=k:=⟨_,rfl⟩
 have u3:=z1f IL 4;rw[hkk,HIL.out.2.1] at u3;rw[hkk] at hdyb;have HKK:=hid (show upt IL 4=kk∧4≤kk∧kk≤19 from⟨hkk,by omega,by omega⟩);obtain⟨a9,ha9⟩:∃x,a - 257=x:=⟨_,rfl⟩
 obtain⟨b9,hb9⟩:∃x,b - 1=x:=⟨_,rfl⟩
 obtain⟨k9,hk9⟩:∃x,kk - 4=x:=⟨_,rfl⟩
 rw[ha9,hb9,hk9] at hdyb;have HE:=hid (show(a:Int) - 257=(a9:Int)∧(b:Int) - 1=(b9:Int)∧(kk:Int) - 4=(k9:Int)∧a9≤300∧b9≤300∧k9≤300 from⟨by omega,by omega,by omega,by omega,by omega,by omega⟩);have HPt5:=hid (show ∀ (W:World) (v3:Value) (b3:List Nat),Bw B W P v3 b3→w.heap.size≤W.heap.size→b3.length≤19000000→∀n:Nat,n≤300→Calls Tryz.prog 50 #[.pointer (some ⟨P,0,none⟩),.int .i64 n,.int .i64 5] W fun e w'=>e=.returned (.tuple #[])∧∃v',Bw B w' P v' (b3++put n 5)∧Chg P v3.ownBlock W v'.ownBlock w' from fun W v3 b3 h3 hs h4 n hn=>put_any h3 n 5 (by omega) (by omega) (by omega) (qK hB hs));have HPt4:=hid (show ∀ (W:World) (v3:Value) (b3:List Nat),Bw B W P v3 b3→w.heap.size≤W.heap.size→b3.length≤19000000→∀n:Nat,n≤300→Calls Tryz.prog 50 #[.pointer (some ⟨P,0,none⟩),.int .i64 n,.int .i64 4] W fun e w'=>e=.returned (.tuple #[])∧∃v',Bw B w' P v' (b3++put n 4)∧Chg P v3.ownBlock W v'.ownBlock w' from fun W v3 b3 h3 hs h4 n hn=>put_any h3 n 4 (by omega) (by omega) (by omega) (qK hB hs));have HPt3:=hid (show ∀ (W:World) (v3:Value) (b3:List Nat),Bw B W P v3 b3→w.heap.size≤W.heap.size→b3.length≤19000000→∀n:Nat,n≤300→Calls Tryz.prog 50 #[.pointer (some ⟨P,0,none⟩),.int .i64 n,.int .i64 3] W fun e w'=>e=.returned (.tuple #[])∧∃v',Bw B w' P v' (b3++put n 3)∧Chg P v3.ownBlock W v'.ownBlock w' from fun W v3 b3 h3 hs h4 n hn=>put_any h3 n 3 (by omega) (by omega) (by omega) (qK hB hs));have HDy:=hid hdyb;have HH:=hid h;have HN:=hid (show B≤w.heap.size∧bs.length≤10000000 from⟨hB,hl⟩);have b0:=(Below.refl w.heap.size w).alloc qR (.cells #[.slice (some ⟨la,0,none⟩) 286 286,.slice (some ⟨da,0,none⟩) 30 30] 74);have x0:=C2.new w (.slice (some ⟨la,0,none⟩) 286 286) (.slice (some ⟨da,0,none⟩) 30 30);have HB0:=hid b0;have HX0:=hid x0;have hmk:∀w,(Instr.makeSlice 130 (.int .i64 19) (.int .i64 19)).run Tryz.prog w=.ok (.slice (some ⟨w.heap.size,0,none⟩) 19 19) (w.alloc (.cells (madeCells #[.int .i64 0] 19) 3)):=fun w=>z6M w 19 (by omega)
 have HMk:=hid hmk;have a0:=x0.at0;have a1:=x0.at1;clear h H1 H2 hx1 hx2 hr hlv hl hB u1 u2 hdyb ha hb hy1 hy2 l1 l2 hall hrk hrl hnd hple hplm hplk hq b0 x0 hmk hfine hf hkk u3 hIL ha9 hb9 hk9;go_enter Tryz.func32,Tryz.ntmps32;go_wp2_with fail
 go_quiet (first
  |(go_at_call 56;with_reducible refine Calls.quiet_of_same (HU1.out _ (z00 HB0.out _)))
  |(go_at_call 56;with_reducible refine Calls.quiet_of_same (HU2.out _ (z00 HB0.out _))))
 have hmk:=HMk.out
 go_wp2_with (first
  |(at_builtin;refine z3U rfl (.tmp 27) (.tmp 31) rfl w.heap.size (.slice none 0 0) [] rfl (Owb.nil _ _) la 0 286 a y1 HY.out.2.1 rfl (HC1.out _ (z00 HB0.out _)) (by simp;omega) (z00 HB0.out _).size ?_;intro v3 W3 o3 g3 b3;have HO3:=hid o3;have HB3:=hid ((z00 HB0.out _).trans b3);have HX3:W3.cell? ⟨w.heap.size,1,none⟩=some (.slice (some ⟨da,0,none⟩) 30 30):=C2.at1 (World.rowIs.of_block (World.rowIs.of_block HX0.out rfl) (g3.block w.heap.size (World.rowIs.lt HX0.out) (fun e=>by cases e)));clear o3 g3 b3)
  |(at_builtin;refine z3U rfl (.tmp 33) (.tmp 37) rfl w.heap.size v3 ([]++y1) rfl HO3.out da 0 30 b y2 HY.out.2.2 rfl (HC2.out _ HB3.out) (by rw[List.nil_append,HY.out.2.1];omega) HB3.out.size ?_;intro v4 W4 o4 g4 b4;rw[List.nil_append] at o4;obtain⟨A4,c4,rfl,i4⟩:=o4.bys (fun x hx=>by have:=HY.out.1 x hx;omega) (by rw[qA,HY.out.2.1,HY.out.2.2];unfold maxLen;omega);rw[qA,HY.out.2.1,HY.out.2.2] at i4 ⊢;have HI4:=hid i4;have HB4:=hid (HB3.out.trans b4);clear o4 g4 b4 i4)
  |(go_at_call 57;(with_reducible refine(HPk.out W4 A4 c4 HI4.out).mono ?_);rintro e5 W5 ⟨v5,rfl,o5,b5⟩;obtain⟨A5,c5,rfl,i5⟩:=o5.rns (fun x hx=>by have:=HR.out.1 x hx;unfold Rok at this;omega) (by rw[HR.out.2.1];have:=HR.out.2.2;unfold maxLen;omega);rw[HR.out.2.1] at o5 ⊢;have HO5:=hid o5;have HB5:=hid (HB4.out.trans (b5.mono HB4.out.size));have HNe:=hid (show ∀g,(Value.slice A5 q c5).ownBlock=some g→g≠W5.heap.size from fun g hg=>Nat.ne_of_lt (o5.lt g hg).2);clear o5 b5 i5))
 clear hmk a0 a1
 go_loopw [10] (fun x wr=> ∃k:Nat,k≤q∧x=.int .i64 k∧z0Q wr W5.heap.size 19 (fun i=>(rc (r.take k) i:Int))∧Owr W4.heap.size wr (.slice A5 q c5) r∧Below w.heap.size w wr) (fun x _=>q - (intOf x).toNat)
 case atStart=>exact⟨0,qZ,rfl,(z0Q.made W5 19).congr (fun i _=>rfl),HO5.out.alloc _,HB5.out.alloc HB5.out.size _⟩
 case round=>
  obtain⟨k,hk,rfl,hI,hO,hb⟩:=hrel;have hqb:q≤316:=HR.out.2.2;by_cases hlt:k<q
  · have d5:decide ((k:Int)<(q:Int))=true:=q9T (by omega)
    have d5':decide (k<q)=true:=q9T hlt;have hkL:k<r.length:=by rw[HR.out.2.1];exact hlt
    have hmem:r.getD k default∈r:=by rw[List.getD,qE hkL];exact List.getElem_mem _
    have hok:=HR.out.1 _ hmem;obtain⟨A6,c6,e6,i6⟩:=hO.rns (fun x hx=>by have:=HR.out.1 x hx;unfold Rok at this;omega) (by rw[HR.out.2.1];unfold maxLen;omega);simp only[Value.slice.injEq] at e6;obtain⟨rfl,e7,rfl⟩:=e6;obtain⟨bb,o,rfl,hbb,hc⟩:=i6.at (by omega);obtain⟨z0,z1⟩:=hc k (by omega);have t1:=zan r k hkL;obtain⟨y,hy⟩:∃y,r.getD k default=y:=⟨_,rfl⟩
    rw[hy] at z0 z1 hok t1;obtain⟨ys,ye⟩:=y;unfold Rok at hok;simp only at z0 hok t1;have hyn:ys<19:=by omega
    have ct:=hI.cell hyn;have cf:=hI.frozen ys;have hct:=zao (r.take k) ys;rw[List.length_take] at hct;obtain⟨u,hu⟩:∃u,rc (r.take k) ys=u:=⟨_,rfl⟩
    rw[hu] at ct hct;have hu2:u≤316:=by omega
    have HIn:=((hI.set ys ((u+1:Nat):Int)).congr (y:=fun i=>(rc (r.take (k+1)) i:Int)) (fun j hj=>by
     rw[t1 j];by_cases e:j=ys
     · subst e;rw[if_pos rfl,if_pos rfl,hu]
     · rw[if_neg e,if_neg (fun hh=>e hh.symm),Nat.add_zero]))
    rw[show((u+1:Nat):Int)=(u:Int)+1 by omega] at HIn;have HIn2:=hid HIn;have HO2:=hid hO;have HBk:=hid hb;clear HIn hI hO hb hkL hmem hok e7 i6 hc z1 t1 hy hct hu;go_wp2_with fail;go_roundw
    case rel=>exact⟨k+1,by omega,by go_num,HIn2.out,HO2.out.at (fun g hg=>Below.heap_setCell _ _ _ _ (HNe.out g hg)),HBk.out.setCell HB5.out.size _⟩
    case measure=>(simp[intOf];try omega)
  · obtain rfl:k=q:=by omega
    have d5:decide ((k:Int)<(k:Int))=false:=qF (by omega);have d5':decide (k<k)=false:=qF (by omega);have hT:r.take k=r:=List.take_of_length_le (by rw[HR.out.2.1];exact qR);rw[hT] at hI;have HI6:=hid hI;have HO6:=hid hO;have HB6:=hid hb;clear hI hO hb hT
    go_wp2_with (first
     |(go_at_call 55;(with_reducible refine(HLe.out _ W5.heap.size HI6.out.nums).mono ?_);rintro e7 W7 ⟨gl,rfl,gel,brl,b7⟩;rw[HF.out] at brl;have HBr7:=hid brl;have HO7:=hid (HO6.out.below b7);have HB7:=hid (HB6.out.trans (b7.mono HB6.out.size));have HG7:=hid (show w.heap.size≤gl from qK HB6.out.size gel);clear gel brl b7)
     |(go_at_call 58;(with_reducible refine(zaQ W7).mono ?_);rintro e8 W8 ⟨rfl,i8,b8⟩;have HI8:=hid i8;have HBr8:=hid (HBr7.out.below b8 HBr7.out.lt);have HO8:=hid (HO7.out.below b8);have HB8:=hid (HB7.out.trans (b8.mono HB7.out.size));clear i8 b8))
    go_loopw [13,15] (fun v x w9=> ∃j:Nat,j≤19∧x=.int .i64 j∧Owb W8.heap.size w9 v ((ord.take j).map f)∧Below W8.heap.size W8 w9) (fun _ x _=>19 - (intOf x).toNat)
    case atStart=>exact⟨0,qZ,rfl,Owb.nil _ _,Below.refl _ _⟩
    case round=>
     obtain⟨j,hj,rfl,hO,hb⟩:=hrel;have HOj:=hid hO;have HBj:=hid hb;by_cases hlt:j<19
     · have d6:decide ((j:Int)<19)=true:=q9T (by omega)
       have d6':decide (j<19)=true:=q9T hlt;have z0:=IsBys.cell0 (HI8.out.below hb) hlt;have hos:=zhQ j hlt;have hsu:=zds f j hlt;obtain⟨os,hos2⟩:∃x,ord.getD j 0=x:=⟨_,rfl⟩
       rw[hos2] at z0 hos hsu;have z1:=(HBr8.out.below hb HBr8.out.lt).cell (i:=os) (by omega);have hfz:=HPl.out.1 os;obtain⟨z,hz⟩:∃x,f os=x:=⟨_,rfl⟩
       rw[hz] at z1 hfz hsu;have hos3:os<19:=by omega
       have HSu:=hid hsu;have hlen:((ord.take j).map f).length≤19:=by rw[List.length_map,List.length_take];have:ord.length=19:=rfl;omega
       clear hO hb hsu hos2 hz hos;go_wp2_with (at_builtin;refine z9L rfl (.tmp 73) (.tmp 81) rfl W8.heap.size _ _ rfl (HOj.out.alloc _) wr.heap.size 1 z rfl (by simp) (by omega) (by have:=HBj.out.size;simp;omega) ?_;intro v9 w9 o9 g9 b9';have HO9:=hid o9;have HB9:=hid ((HBj.out.alloc HBj.out.size _).trans b9');clear o9 g9 b9');go_roundw
       case rel=>exact⟨j+1,by omega,by go_num,by rw[HSu.out];exact HO9.out,HB9.out⟩
       case measure=>(simp[intOf];try omega)
     · obtain rfl:j=19:=by omega
       have d6:decide ((19:Int)<19)=false:=by decide
       have d6':decide (19<19)=false:=by decide
       have hinl:(ord.take 19).map f=IL:=HIL.out.1;rw[hinl] at hO;obtain⟨A9,c9,rfl,i9⟩:=hO.bys (fun x hx=>by have:=HIL.out.2.2 x hx;omega) (by rw[HIL.out.2.1];unfold maxLen;omega);rw[HIL.out.2.1] at i9 hO ⊢;have HU3:=hid (z4w A9 19 c9 IL 4 wr i9 (by omega) (by omega));have hu3:Calls Tryz.prog 56 #[.slice A9 19 c9,.int .i64 4] wr fun e w'=>e=.returned (.int .i64 (upt IL 4:Nat))∧wr=w':=HU3.out
       rw[HKK.out.1] at hu3;have HU4:=hid hu3;have hBw:=HB8.out.trans (hb.mono HB8.out.size)
       have HD9:=hid (show Ds B wr P v bs W8.heap.size (.slice A9 19 c9) IL W4.heap.size (.slice A5 k c5) r gl f from⟨HH.out.below hBw,hO,HO8.out.below hb,HBr8.out.below hb HBr8.out.lt,
        fun g hg=>Bw.apart HH.out (qK HB8.out.size (World.ownsRow.lt hO g hg).1) (World.ownsRow.lt hO g hg).2,
        fun g hg=>Bw.apart HH.out (qK HB4.out.size (HO8.out.lt g hg).1) (Nat.lt_of_lt_of_le (HO8.out.lt g hg).2 hb.size),
        Bw.apart HH.out HG7.out (Nat.lt_of_lt_of_le HBr8.out.lt hb.size)⟩)
       have HBw:=hid hBw;obtain⟨ea,eb,ek,la9,lb9,lk9⟩:=HE.out;clear hO hb i9 hinl HOj HBj HU3 hu3 hBw
       go_wp2_with (first
        |(go_at_call 56;(with_reducible refine HU4.out.mono ?_);rintro e9 _ ⟨rfl,rfl⟩)
        |(go_at_call 50;(with_reducible refine(HPt5.out _ _ _ HD9.out.wr HBw.out.size (by have:=HN.out.2;omega) a9 la9).mono ?_);rintro e10 Wa ⟨rfl,va,ba,ka⟩;have HDa:=hid (HD9.out.chg ka ba);have HCa:=hid ((Chg.of_below HBw.out).trans ka);clear ba ka)
        |(go_at_call 50;(with_reducible refine(HPt5.out _ _ _ HDa.out.wr HCa.out.size (by rw[qA,z02];have:=HN.out.2;omega) b9 lb9).mono ?_);rintro e10 Wb ⟨rfl,vb,bb',kb⟩;have HDb:=hid (HDa.out.chg kb bb');have HCb:=hid (HCa.out.trans kb);clear bb' kb)
        |(go_at_call 50;(with_reducible refine(HPt4.out _ _ _ HDb.out.wr HCb.out.size (by rw[qA,z02,qA,z02];have:=HN.out.2;omega) k9 lk9).mono ?_);rintro e10 Wc ⟨rfl,vc,bc,kc⟩;have HDc:=hid (HDb.out.chg kc bc);have HCc:=hid (HCb.out.trans kc);clear bc kc))
       obtain⟨B3,hB3⟩:∃x,bs++put a9 5++put b9 5++put k9 4=x:=⟨_,rfl⟩
       have hB3l:B3.length≤10000014:=by rw[←hB3,qA,z02,qA,z02,qA,z02];have:=HN.out.2;omega
       rw[hB3] at HDc;have HB3e:=hid (show bs++put a9 5++put b9 5++put k9 4=B3∧B3.length≤10000014 from⟨hB3,hB3l⟩);clear hB3 hB3l ea eb ek la9 lb9 lk9
       go_loopw [17] (fun x w9=> ∃ (j:Nat) (v9:Value),j≤kk∧x=.int .i64 j∧Ds B w9 P v9 (B3++(IL.take j).flatMap (fun x=>put x 3)) W8.heap.size (.slice A9 19 c9) IL W4.heap.size (.slice A5 k c5) r gl f∧Chg P v.ownBlock w v9.ownBlock w9) (fun x _=>kk - (intOf x).toNat)
       case atStart=>exact⟨0,_,qZ,rfl,by simpa using HDc.out,HCc.out⟩
       case round=>
        obtain⟨j,v9,hj,rfl,hd,hc⟩:=hrel;have HD10:=hid hd;have HC10:=hid hc;have hkk19:kk≤19:=HKK.out.2.2;by_cases hlt:j<kk
        · have d7:decide ((j:Int)<(kk:Int))=true:=q9T (by omega)
          have d7':decide (j<kk)=true:=q9T hlt;have hii:=hd.inc (HIL.out.2.1) (fun x hx=>by have:=HIL.out.2.2 x hx;omega) (by omega);obtain⟨bb,o,rfl,hbb,hcc⟩:=hii.at (by omega);have z0:=hcc j (by omega);have hj19:j<19:=by omega
          have hsu:=zax IL j (by rw[HIL.out.2.1];omega);have hz7:IL.getD j 0≤7:=by rw[List.getD,qE (by rw[HIL.out.2.1];omega)];exact HIL.out.2.2 _ (List.getElem_mem _)
          obtain⟨z,hz⟩:∃x,IL.getD j 0=x:=⟨_,rfl⟩
          rw[hz] at z0 hz7 hsu;have hw8:wrap64 (z:Int)=(z:Int):=IntWalk.wrap64_in _ ⟨by omega,by omega⟩;have hlen:=z2D (IL.take j);rw[List.length_take] at hlen;have hlen2:(B3++(IL.take j).flatMap (fun x=>put x 3)).length≤19000000:=by rw[qA,hlen];have:=HB3e.out.2;omega
          have hz300:z≤300:=qK hz7 (by omega);obtain⟨b9',hb9'⟩:∃x,B3++(IL.take j).flatMap (fun x=>put x 3)=x:=⟨_,rfl⟩
          have hdw:=hd.wr;rw[hb9'] at hdw hlen2;have hpu:=HPt3.out wr v9 b9' hdw hc.size hlen2 z hz300;rw[←hb9'] at hpu;have HPu:=hid hpu;have HSu:=hid hsu;clear hd hc hii hcc hsu hz hlen hlen2 hpu hdw hb9';go_wp2_with (go_at_call 50;(with_reducible refine HPu.out.mono ?_);rintro e11 w11 ⟨rfl,v11,b11,k11⟩;have HD11:=hid (HD10.out.chg k11 b11);have HC11:=hid (HC10.out.trans k11);clear b11 k11);go_roundw
          case rel=>exact⟨j+1,v11,by omega,by go_num,by rw[HSu.out,←qD];exact HD11.out,HC11.out⟩
          case measure=>(simp[intOf];try omega)
        · obtain rfl:j=kk:=by omega
          have d7:decide ((j:Int)<(j:Int))=false:=qF (by omega);have d7':decide (j<j)=false:=qF (by omega);obtain⟨B4,hB4⟩:∃x,B3++(IL.take j).flatMap (fun x=>put x 3)=x:=⟨_,rfl⟩
          have hB4l:B4.length≤10000100:=by
           rw[←hB4,qA,z2D,List.length_take];have:=HB3e.out.2;omega
          rw[hB4] at hd;have HB4e:=hid (show B3++(IL.take j).flatMap (fun x=>put x 3)=B4∧B4.length≤10000100 from⟨hB4,hB4l⟩);have HD12:=hid hd
          have HCo:=hid (show Calls Tryz.prog 51 #[.slice (some ⟨gl,0,none⟩) 19 19] wr (C.GotC wr 19 (cod f 19) f 0) from by
           have:=C.rcodes_any (some ⟨gl,0,none⟩) 19 19 f wr (by unfold maxLen;omega) HPl.out.2.byte hd.l.nums;rw[HPl.out.2.erc.1,HPl.out.2.erc.2] at this;exact this)
          clear hd hc hB4 hB4l HD10;go_wp2_with (go_at_call 51;(with_reducible refine HCo.out.mono ?_);rintro e12 W13 ⟨A13,c13,rfl,z1,z2,z3,b13,z4⟩;obtain⟨ba,rfl,gba,cra⟩:=z4 (by omega);have HD13:=hid (HD12.out.below b13);have HC13:=hid (HC10.out.trans (Chg.of_below b13));have HCr13:=hid cra;have HAp13:=hid (Bw.apart HD12.out.wr gba cra.lt);clear z1 z2 z3 z4 b13 gba cra)
          go_loopw [20] (fun x w9=> ∃ (p:Nat) (v10:Value),p≤k∧x=.int .i64 p∧Ds B w9 P v10 (B4++(r.take p).flatMap (wrn f)) W8.heap.size (.slice A9 19 c9) IL W4.heap.size (.slice A5 k c5) r gl f∧Chg P v.ownBlock w v10.ownBlock w9∧C.Crow w9 ba 19 (cod f 19) f∧Ap P v10.ownBlock w9 ba) (fun x _=>k - (intOf x).toNat)
          case atStart=>exact⟨0,v9,qZ,rfl,by simpa using HD13.out,HC13.out,HCr13.out,HAp13.out⟩
          case round=>
           obtain⟨p,v10,hp,rfl,hd,hc,hcr,hap⟩:=hrel;have HD14:=hid hd;have HC14:=hid hc;have HCr14:=hid hcr;have HAp14:=hid hap;have hk316:k≤316:=HR.out.2.2;by_cases hlt:p<k
           · have d8:decide ((p:Int)<(k:Int))=true:=q9T (by omega)
             have d8':decide (p<k)=true:=q9T hlt;have hrr:=hd.rns HR.out.2.1 HR.out.1 (by omega);obtain⟨bb,o,rfl,hbb,hcc⟩:=hrr.at (by omega);obtain⟨z0,z1⟩:=hcc p hlt;have hkL:p<r.length:=by rw[HR.out.2.1];exact hlt
             have hmem:r.getD p default∈r:=by rw[List.getD,qE hkL];exact List.getElem_mem _
             have hok:=HR.out.1 _ hmem;have hsu:=zcw f r p hkL;have hln:=z9I f HPl.out.1 (r.take p);rw[List.length_take] at hln;obtain⟨y,hy⟩:∃y,r.getD p default=y:=⟨_,rfl⟩
             rw[hy] at z0 z1 hok hsu;obtain⟨ys,ye⟩:=y;unfold Rok at hok;simp only at z0 z1 hok;have hys:ys<19:=by omega
             have f1:=hcr.cell1 hys;have f2:=hcr.cell2 hys;have hcf:=z5g HPl.out.2.may HPl.out.2.wt hys;have hz7:=HPl.out.1 ys;have hpw:2^f ys≤2^7:=Nat.pow_le_pow_right (by omega) hz7;have hbits:wrn f ⟨ys,ye⟩=cdb (cod f 19 ys) (f ys)++put ye (rbn ys):=rfl;rw[hbits] at hsu;obtain⟨cc,hcc2⟩:∃x,cod f 19 ys=x:=⟨_,rfl⟩
             obtain⟨z,hzz⟩:∃x,f ys=x:=⟨_,rfl⟩
             rw[hcc2] at f1 hcf hsu;rw[hzz] at f2 hz7 hcf hpw hsu;have h32:cc<4294967296:=by omega
             have hw8:IntKind.i64.wrap (ye:Int)=(ye:Int):=by rw[IntWalk.i64_left];exact IntWalk.wrap64_in _ ⟨by omega,by omega⟩
             have hrb:=fun W=>zar ys W (by omega)
             rw[zeI hok.1] at hrb;have hrn:=z7F ys;obtain⟨nb,hnb⟩:∃x,rbn ys=x:=⟨_,rfl⟩
             rw[hnb] at hrb hrn hsu;obtain⟨B5,hB5⟩:∃x,B4++(r.take p).flatMap (wrn f)=x:=⟨_,rfl⟩
             have hB5l:B5.length≤11000000:=by rw[←hB5,qA];have:=HB4e.out.2;omega
             have hdw:=hd.wr;rw[hB5] at hdw;have hco:=code_any hdw cc z h32 (by omega) (by omega) (qK HN.out.1 hc.size);have HCo2:=hid hco;have p1:ye≤1000000:=qK hok.2 (by decide);have p2:nb≤20:=qK hrn (by decide);have p3:(B5++cdb cc z).length≤20000000:=by rw[qA,z0i];omega
             have hpu:∀ (W:World) (v5:Value),Bw B W P v5 (B5++cdb cc z)→w.heap.size≤W.heap.size→Calls Tryz.prog 50 #[.pointer (some ⟨P,0,none⟩),.int .i64 (IntKind.i64.wrap (ye:Int)),.int .i64 nb] W fun e w'=>e=.returned (.tuple #[])∧∃v',Bw B w' P v' (B5++cdb cc z++put ye nb)∧Chg P v5.ownBlock W v'.ownBlock w':=fun W v5 h5 hw5=>by rw[hw8];exact put_any h5 ye nb p1 p2 p3 (qK HN.out.1 hw5)
             have HPu:=hid hpu;have HSu:=hid (show(r.take (p+1)).flatMap (wrn f)=(r.take p).flatMap (wrn f)++(cdb cc z++put ye nb)∧B4++(r.take p).flatMap (wrn f)=B5 from⟨hsu,hB5⟩);have HRb:=hid hrb
             have hcl:=fun(W:World) (v5:Value) (b5:List Nat) (h5:Ds B W P v5 b5 W8.heap.size (.slice A9 19 c9) IL W4.heap.size (.slice (some ⟨bb,o,none⟩) k c5) r gl f)=>show W.cell? ⟨bb,o+p*2,none⟩=some (.int .u8 (ys:Int))∧W.cell? ⟨bb,o+p*2+1,none⟩=some (.int .u8 (ye:Int)) from by
              obtain⟨bb2,o2,e3,_,h6⟩:=(h5.rns HR.out.2.1 HR.out.1 (by omega)).at (by omega);simp only[Option.some.injEq,Addr.mk.injEq,and_true] at e3;obtain⟨rfl,rfl⟩:=e3;have:=h6 p hlt;rw[hy] at this;exact this
             have HCl:=hid hcl;have hye:ye≤127:=hok.2;have hcc3:cc≤255:=by omega
             clear hd hc hcr hap hrr hcc hkL hmem hok hsu hln hy hcf hpw hbits hcc2 hzz hrb hnb hB5 hB5l hdw hco hpu hcl z1 p1 p2 p3 hw8;go_wp2_with (go_at_call 53;(with_reducible refine HCo2.out.mono ?_);rintro e15 w5 ⟨rfl,v5,b5,k5⟩;have HD5:=hid (HD14.out.chg k5 b5);have HC5':=hid (HC14.out.trans k5);have HCr5:=hid (Crow.at' HCr14.out (HAp14.out.chg k5).2);have HAp5:=hid (HAp14.out.chg k5).1;obtain⟨g0,g1⟩:=HCl.out _ _ _ HD5.out;clear b5 k5)
             go_region_with (first
              |(go_at_call 59;(with_reducible refine(HRb.out _).mono ?_);rintro e16 _ ⟨rfl,rfl⟩)
              |(go_at_call 50;(with_reducible refine(HPu.out w5.drew v5 HD5.out.drew.wr HC5'.out.drew.size).mono ?_);rintro e17 w6 ⟨rfl,v6,b6,k6⟩;have HK6:=hid ((Chg.of_below (Below.refl w5.heap.size w5).drew).trans k6);have HD6:=hid (HD5.out.drew.chg k6 b6);have HC6:=hid (HC5'.out.drew.trans k6);clear b6 k6))
             all_goals
              go_wp2_with fail;go_roundw
              case rel=>exact⟨p+1,v6,by omega,by go_num,by rw[HSu.out.1,←qD,←qD,HSu.out.2];exact HD6.out,HC6.out,Crow.at' HCr5.out (HAp5.out.chg HK6.out).2,(HAp5.out.chg HK6.out).1⟩
              case measure=>(simp[intOf];try omega)
           · obtain rfl:p=k:=by omega
             have d8:decide ((p:Int)<(p:Int))=false:=qF (by omega);have d8':decide (p<p)=false:=qF (by omega);clear hd hc hcr hap;go_wp2_with fail;go_end0;refine⟨rfl,v10,?_,HC14.out⟩;have hfin:=HD14.out.wr;rw[List.take_of_length_le (by rw[HR.out.2.1];exact qR),←HB4e.out.1,←HB3e.out.1] at hfin;rw[HDy.out];simp only[qD] at hfin ⊢;exact hfin
end Go.Proofs.YtacelhaidcmbcaaGreatDoor.V
namespace Go.Proofs.YtacelhaidcmbcaaGreatDoor.V
open Go Go.RowKit M U
noncomputable def hfl(c:Nat→Nat)(n L:Nat):Nat→Nat:=pl (z98 c n).choose (z98 c n).choose_spec.choose L
noncomputable def hfm(c:Nat→Nat)(n:Nat):Nat:=(z98 c n).choose
noncomputable def hfe(c:Nat→Nat)(n:Nat):Nat→Nat×Nat:=(z98 c n).choose_spec.choose
theorem zie(c:Nat→Nat)(n L:Nat):hfl c n L=pl (hfm c n) (hfe c n) L:=rfl
theorem z57(c:Nat→Nat)(n:Nat):z2x c n (hfm c n) (hfe c n):=(z98 c n).choose_spec.choose_spec
theorem z62(c:Nat→Nat){n L:Nat}(h1:1≤L)(hn:n≤2^L):nds (hfm c n)≤L:=(z1d h1).2 (qK (z57 c n).le hn)
theorem z0e(c:Nat→Nat){n L:Nat}(h1:1≤L)(hn:n≤2^L)(s:Nat):hfl c n L s≤L:=z90 (z57 c n) (z62 c h1 hn) h1 s
theorem z1W(c:Nat→Nat){n L:Nat}(h1:1≤L)(h15:L≤15)(hn:n≤2^L)(h320:n≤320):z4s (hfl c n L) n:=
 z4s.of_kind (zaD (z57 c n) h320 (z62 c h1 hn) h1 h15) (fun i=>qK (z0e c h1 hn i) (by omega)) (by
  rw[zie,zaE (z57 c n) h320 (z62 c h1 hn) h1 h15]
  split
  · omega
  · split<;>omega)
theorem z2O:z4s fxl 288:=⟨⟨by decide,fun i _=>by unfold fxl;split<;>(try split)<;>(try split)<;>omega⟩,by decide+kernel,fun i=>by unfold fxl;split<;>(try split)<;>(try split)<;>omega⟩
theorem z4f:z4s (fun _=>5) 30:=⟨⟨by decide,fun i _=>by show 5≤15;decide⟩,by decide+kernel,fun i=>by show 5≤255;decide⟩
noncomputable def ll1(L:List Tk):Nat→Nat:=hfl (cs false (sys L)) 286 15
noncomputable def ll2(L:List Tk):Nat→Nat:=hfl (cs true (sys L)) 30 15
noncomputable def lx1(L:List Tk):List Nat:=(List.range 286).map (ll1 L)
noncomputable def lx2(L:List Tk):List Nat:=(List.range 30).map (ll2 L)
noncomputable def rrs(L:List Tk):List Rn:=pk ((lx1 L).take (upt (lx1 L) 257)++(lx2 L).take (upt (lx2 L) 1))
noncomputable def ll3(L:List Tk):Nat→Nat:=hfl (rc (rrs L)) 19 7
noncomputable def hdd(L:List Tk):List Nat:=dyb (lx1 L) (lx2 L) (rrs L) (ll3 L)
def sfx(L:List Tk):List Nat:=(sys L).flatMap (wsy fxl 288 (fun _=>5) 30)
noncomputable def sbs(L:List Tk):List Nat:=(sys L).flatMap (wsy (ll1 L) 286 (ll2 L) 30)
noncomputable def blk(k:Nat)(L:List Tk)(raw:ByteArray)(last:Bool)(o:Nat):List Nat:=
 if k=0 then stb o raw last else if k=1 then hdb 1 last++sfx L else hdb 2 last++hdd L++sbs L
noncomputable def bkm(k:Nat)(L:List Tk)(raw:ByteArray)(last:Bool)(o:Nat):List Nat:=if k=0 then stm o raw last else blk k L raw last o
theorem zem{k:Nat}{L:List Tk}{raw:ByteArray}{last:Bool}{o:Nat}(h:k=0→raw.size≤65535):bkm k L raw last o=blk k L raw last o:=by
 unfold bkm
 split
 · rename_i e;rw[e,z4C (h e)];unfold blk;rw[if_pos rfl]
 · rfl
theorem z0N{k:Nat}{L:List Tk}{raw:ByteArray}{last:Bool}{o:Nat}(h:raw.size≤65535):bkm k L raw last o=blk k L raw last o:=zem (fun _=>h)
theorem IsBys.of_br{w:World}{g n:Nat}{f:Nat→Nat}(h:Br w g n f)(hn:n≤1000)(hf:∀i,f i≤255):IsBys w (some ⟨g,0,none⟩) n ((List.range n).map f):=
 ⟨by simp,by unfold maxLen;omega,fun x hx=>by
  obtain⟨i,_,rfl⟩:=List.mem_map.1 hx;exact hf i,.inr ⟨g,0,rfl,h.lt,fun i x hx=>by
  have hi:i<n:=by
   have:=(List.getElem?_eq_some_iff.1 hx).1
   simpa using this
  rw[List.getElem?_map,List.getElem?_range hi] at hx;simp only[Option.map_some,Option.some.injEq] at hx;rw[←hx,Nat.zero_add];exact h.cell hi⟩⟩
theorem za9(L:List Tk):(rrs L).length≤316:=by
 unfold rrs;refine qK (z4c _) ?_
 rw[qA,List.length_take,List.length_take];have h1:(lx1 L).length=286:=by unfold lx1;simp
 have h2:(lx2 L).length=30:=by unfold lx2;simp
 omega
theorem z6V(L:List Tk):(hdd L).length≤5000:=by
 unfold hdd dyb;simp only[qA,z02,z2D,List.length_take];have h1:=z9I (ll3 L) (fun s=>z0e _ (by decide) (by decide) s) (rrs L);have h2:=za9 L;have h3:=z2p (ll3 L);omega
end Go.Proofs.YtacelhaidcmbcaaGreatDoor.V
namespace Go.Proofs.YtacelhaidcmbcaaGreatDoor.V
open Go.Lib (hid)
open Go Go.RowKit M U
theorem Bw.base{B P:Nat}{w w':World}{v v':Value}{bs:List Nat}(h:Bw B w P v bs)(c:Chg P v.ownBlock w v'.ownBlock w')(hB:B≤w.heap.size):Below B w w':=
 c.below hB h.hB (fun j e=>(World.ownsRow.lt h.ow j e).1)
theorem z5r{B P:Nat}{v:Value}{bs:List Nat}{w:World}(h:Bw B w P v bs)(A:Option Addr)(n c:Nat)(L:List Tk)(raw:ByteArray)(last:Bool)(hr:raw.size≤70000)(hl:bs.length≤9000000)(hB:B≤w.heap.size):
 Calls Tryz.prog 13 #[.pointer (some ⟨P,0,none⟩),.int .u8 0,.slice A n c,.string raw,.bool last] w fun e w'=>e=.returned (.tuple #[])∧∃v',Bw B w' P v' (bs++bkm 0 L raw last bs.length)∧Chg P v.ownBlock w v'.ownBlock w':=by
 have HS:=hid (z8Q h raw last (by omega) hB);have hv:bkm 0 L raw last bs.length=stm bs.length raw last:=by unfold bkm;rw[if_pos rfl]
 rw[hv];have HV:=hid hv;clear hv h hr hl hB;go_enter Tryz.func13,Tryz.ntmps13;go_wp2_with (go_at_call 27;(with_reducible refine HS.out.mono ?_);rintro e w1 ⟨rfl,hq⟩;have HQ:=hid hq;clear hq);go_end0;exact⟨rfl,HQ.out⟩
theorem z6p{B P:Nat}{v:Value}{bs:List Nat}{w:World}(h:Bw B w P v bs)(A:Option Addr)(n c:Nat)(L:List Tk)(raw:ByteArray)(last:Bool)(hT:∀w',Below B w w'→IsTks w' A n L)(hn:n≤10000)(hm:∀t∈L,may t=true)(hl:bs.length≤9000000)(hB:B≤w.heap.size):
 Calls Tryz.prog 13 #[.pointer (some ⟨P,0,none⟩),.int .u8 1,.slice A n c,.string raw,.bool last] w fun e w'=>e=.returned (.tuple #[])∧∃v',Bw B w' P v' (bs++blk 1 L raw last bs.length)∧Chg P v.ownBlock w v'.ownBlock w':=by
 have HH:=hid (show Calls Tryz.prog 28 #[.pointer (some ⟨P,0,none⟩),.int .u8 1,.bool last] w (fun e w'=>e=.returned (.tuple #[])∧∃v',Bw B w' P v' (bs++hdb 1 last)∧Chg P v.ownBlock w v'.ownBlock w') from z58 h 1 last (by decide) (by omega) hB);have hl1:(bs++hdb 1 last).length≤10000000:=by rw[qA,z04];omega
 have HS:=hid (fun(w1 w2:World) (v1:Value) (la da:Nat) (h1:Bw B w1 P v1 (bs++hdb 1 last)) (c1:Chg P v.ownBlock w v1.ownBlock w1) (r1:Br w2 la 288 fxl) (r2:Br w2 da 30 (fun _=>5)) (b2:Below w1.heap.size w1 w2)=>
  (show Calls Tryz.prog 29 #[.pointer (some ⟨P,0,none⟩),.slice A n c,.agg #[.slice (some ⟨la,0,none⟩) 288 288,.slice (some ⟨da,0,none⟩) 30 30]] w2 (fun e w'=>e=.returned (.tuple #[])∧∃v',Bw B w' P v' (bs++blk 1 L raw last bs.length)∧Chg P v.ownBlock w v'.ownBlock w') from by
   have k1:B≤w1.heap.size:=qK hB c1.size;have k2:B≤w2.heap.size:=qK k1 b2.size;have k3:Below B w w2:=(h.base c1 hB).trans (b2.mono k1);have hv:bs++blk 1 L raw last bs.length=bs++hdb 1 last++sfx L:=by unfold blk;rw[if_neg (by decide),if_pos rfl,qD]
   rw[hv];exact(z2Z (h1.below b2) A n c L (hT w2 k3) hn hm _ _ 288 30 288 30 fxl (fun _=>5) r1.nums r2.nums z2O z4f (by decide) (by decide) hl1 k2).mono fun e w' ⟨q1,v',q2,q3⟩=>⟨q1,v',q2,(c1.trans (Chg.of_below b2)).trans q3⟩))
 clear h hT hm hl hB hl1 hn;go_enter Tryz.func13,Tryz.ntmps13
 go_wp2_with (first
  |(go_at_call 28;(with_reducible refine HH.out.mono ?_);rintro e w1 ⟨rfl,v1,h1,c1⟩;have H1:=hid h1;have C1:=hid c1;clear h1 c1)
  |(go_at_call 30;(with_reducible refine(zbA _).mono ?_);rintro e w2 ⟨la,da,rfl,_,_,r1,r2,b2⟩;have R1:=hid r1;have R2:=hid r2;have B2:=hid b2;clear r1 r2 b2)
  |(go_at_call 29;(with_reducible refine(HS.out _ _ _ _ _ H1.out C1.out R1.out R2.out B2.out).mono ?_);rintro e w3 ⟨rfl,hq⟩;have HQ:=hid hq;clear hq))
 go_end0;exact⟨rfl,HQ.out⟩
theorem z4u{B P:Nat}{v:Value}{bs:List Nat}{w:World}(h:Bw B w P v bs)(A:Option Addr)(n c:Nat)(L:List Tk)(raw:ByteArray)(last:Bool)(hT:∀w',Below B w w'→IsTks w' A n L)(hn:n≤10000)(hm:∀t∈L,may t=true)(hl:bs.length≤9000000)(hB:B≤w.heap.size):
 Calls Tryz.prog 13 #[.pointer (some ⟨P,0,none⟩),.int .u8 2,.slice A n c,.string raw,.bool last] w fun e w'=>e=.returned (.tuple #[])∧∃v',Bw B w' P v' (bs++blk 2 L raw last bs.length)∧Chg P v.ownBlock w v'.ownBlock w':=by
 have HH:=hid (show Calls Tryz.prog 28 #[.pointer (some ⟨P,0,none⟩),.int .u8 2,.bool last] w (fun e w'=>e=.returned (.tuple #[])∧∃v',Bw B w' P v' (bs++hdb 2 last)∧Chg P v.ownBlock w v'.ownBlock w') from z58 h 2 last (by decide) (by omega) hB);have hl1:(bs++hdb 2 last).length≤9000003:=by rw[qA,z04];omega
 have hl2:(bs++hdb 2 last++hdd L).length≤10000000:=by rw[qA];have:=z6V L;omega
 have HB:=hid (fun(w1:World) (v1:Value) (h1:Bw B w1 P v1 (bs++hdb 2 last)) (c1:Chg P v.ownBlock w v1.ownBlock w1)=>
  (show Calls Tryz.prog 31 #[.slice A n c] w1 (fun e w'=> ∃la da,e=.returned (.tuple #[.agg #[.slice (some ⟨la,0,none⟩) 286 286,.slice (some ⟨da,0,none⟩) 30 30],.int .i64 0])∧w1.heap.size≤la∧w1.heap.size≤da∧Br w' la 286 (ll1 L)∧Br w' da 30 (ll2 L)∧Below w1.heap.size w1 w') from
   zep A n c L w1 (hT w1 (h.base c1 hB)) (by omega) hm _ _ _ _ (z57 _ _) (z57 _ _)))
 have HD:=hid (fun(w1 w3:World) (v1:Value) (la da:Nat) (h1:Bw B w1 P v1 (bs++hdb 2 last)) (c1:Chg P v.ownBlock w v1.ownBlock w1) (r1:Br w3 la 286 (ll1 L)) (r2:Br w3 da 30 (ll2 L)) (b3:Below w1.heap.size w1 w3)=>
  (show Calls Tryz.prog 32 #[.pointer (some ⟨P,0,none⟩),.agg #[.slice (some ⟨la,0,none⟩) 286 286,.slice (some ⟨da,0,none⟩) 30 30]] w3 (fun e w'=>e=.returned (.tuple #[])∧∃v',Bw B w' P v' (bs++hdb 2 last++hdd L)∧Chg P v1.ownBlock w3 v'.ownBlock w') from by
   have k1:B≤w1.heap.size:=qK hB c1.size;have k2:B≤w3.heap.size:=qK k1 b3.size;have i1:IsBys w3 (some ⟨la,0,none⟩) 286 (lx1 L):=IsBys.of_br r1 (by decide) (fun i=>qK (z0e _ (by decide) (by decide) i) (by decide));have i2:IsBys w3 (some ⟨da,0,none⟩) 30 (lx2 L):=IsBys.of_br r2 (by decide) (fun i=>qK (z0e _ (by decide) (by decide) i) (by decide))
   have i3:∀y∈lx1 L,y≤15:=fun y hy=>by
    obtain⟨i,_,rfl⟩:=List.mem_map.1 hy;exact z0e _ (by decide) (by decide) i
   have i4:∀y∈lx2 L,y≤15:=fun y hy=>by
    obtain⟨i,_,rfl⟩:=List.mem_map.1 hy;exact z0e _ (by decide) (by decide) i
   have k4:(bs++hdb 2 last).length≤10000000:=by omega
   exact z72 (h1.below b3) la da (lx1 L) (lx2 L) i1 i2 i3 i4 (rrs L) rfl _ _ (z57 _ _) k4 k2))
 have HS:=hid (fun(w1 w3 w4:World) (v1 v2:Value) (la da:Nat) (h1:Bw B w1 P v1 (bs++hdb 2 last)) (c1:Chg P v.ownBlock w v1.ownBlock w1) (r1:Br w3 la 286 (ll1 L)) (r2:Br w3 da 30 (ll2 L)) (g1:w1.heap.size≤la) (g2:w1.heap.size≤da) (b3:Below w1.heap.size w1 w3) (h2:Bw B w4 P v2 (bs++hdb 2 last++hdd L)) (c2:Chg P v1.ownBlock w3 v2.ownBlock w4)=>
  (show Calls Tryz.prog 29 #[.pointer (some ⟨P,0,none⟩),.slice A n c,.agg #[.slice (some ⟨la,0,none⟩) 286 286,.slice (some ⟨da,0,none⟩) 30 30]] w4 (fun e w'=>e=.returned (.tuple #[])∧∃v',Bw B w' P v' (bs++blk 2 L raw last bs.length)∧Chg P v.ownBlock w v'.ownBlock w') from by
   have k1:B≤w1.heap.size:=qK hB c1.size;have k2:B≤w3.heap.size:=qK k1 b3.size;have k3:B≤w4.heap.size:=qK k2 c2.size;have c3:Chg P v.ownBlock w v2.ownBlock w4:=(c1.trans (Chg.of_below b3)).trans c2;have k5:Below B w w4:=h.base c3 hB;have s1:Br w4 la 286 (ll1 L):=r1.at' ((h1.apart g1 r1.lt).chg c2).2;have s2:Br w4 da 30 (ll2 L):=r2.at' ((h1.apart g2 r2.lt).chg c2).2;have hv:bs++blk 2 L raw last bs.length=bs++hdb 2 last++hdd L++sbs L:=by unfold blk;rw[if_neg (by decide),if_neg (by decide)];simp only[qD]
   rw[hv];exact(z2Z h2 A n c L (hT w4 k5) hn hm _ _ 286 30 286 30 (ll1 L) (ll2 L) s1.nums s2.nums (z1W _ (by decide) (by decide) (by decide) (by decide)) (z1W _ (by decide) (by decide) (by decide) (by decide)) (by decide) (by decide) hl2 k3).mono fun e w' ⟨q1,v',q2,q3⟩=>⟨q1,v',q2,c3.trans q3⟩))
 have HPB:=hid (fun(w1 w2 w4:World) (v1 v2:Value) (x y:Value) (h1:Bw B w1 P v1 (bs++hdb 2 last)) (b2:Below w1.heap.size w1 w2) (c2:Chg P v1.ownBlock ((w2.alloc (.cells #[x,y] 74))) v2.ownBlock w4)=>
  (show w4.heap[w2.heap.size]? =some (.cells #[x,y] 74 (0,0)) from by
   have a1:Ap P v1.ownBlock (w2.alloc (.cells #[x,y] 74)) w2.heap.size:=h1.apart b2.size (by simp);rw[(a1.chg c2).2];exact heap_alloc_new _ _))
 clear h hT hm hl hB hl1 hn hl2;go_enter Tryz.func13,Tryz.ntmps13
 go_wp2_with (first
  |(go_at_call 28;(with_reducible refine HH.out.mono ?_);rintro e w1 ⟨rfl,v1,h1,c1⟩;have H1:=hid h1;have C1:=hid c1;clear h1 c1)
  |(go_at_call 31;(with_reducible refine(HB.out _ _ H1.out C1.out).mono ?_);rintro e w2 ⟨la,da,rfl,g1,g2,r1,r2,b2⟩;have R1:=hid r1;have R2:=hid r2;have B2:=hid b2;have G1:=hid g1;have G2:=hid g2;clear r1 r2 b2 g1 g2)
  |(go_at_call 32;(with_reducible refine(HD.out w1 _ v1 la da H1.out C1.out (R1.out.alloc _) (R2.out.alloc _) (B2.out.alloc B2.out.size _)).mono ?_);rintro e w4 ⟨rfl,v2,h2,c2⟩;have hp:=HPB.out w1 w2 w4 v1 v2 _ _ H1.out B2.out c2;have k0:w4.cell? ⟨w2.heap.size,0,none⟩=some (.slice (some ⟨la,0,none⟩) 286 286):=(by rw[cell_of_row w4 _ _ _ _ _ hp];rfl);have k1:w4.cell? ⟨w2.heap.size,1,none⟩=some (.slice (some ⟨da,0,none⟩) 30 30):=(by rw[cell_of_row w4 _ _ _ _ _ hp];rfl);have H2:=hid h2;have C2:=hid c2;clear h2 c2 hp)
  |(go_at_call 29;(with_reducible refine(HS.out w1 _ w4 v1 v2 la da H1.out C1.out (R1.out.alloc _) (R2.out.alloc _) G1.out G2.out (B2.out.alloc B2.out.size _) H2.out C2.out).mono ?_);rintro e w5 ⟨rfl,hq⟩;have HQ:=hid hq;clear hq))
 go_end0;exact⟨rfl,HQ.out⟩
end Go.Proofs.YtacelhaidcmbcaaGreatDoor.V
namespace Go.Proofs.YtacelhaidcmbcaaGreatDoor.V
open Go Go.RowKit M U
def smb:List Sy→Nat
 |[]=>0
 |y::S=>y.b+smb S
theorem z8y(l1:Nat→Nat)(n1:Nat)(l2:Nat→Nat)(n2:Nat)(y:Sy):(wsy l1 n1 l2 n2 y).length=(if y.d=true then l2 y.n else l1 y.n)+y.b:=by
 unfold wsy;rw[qA,z02]
 split<;>rw[z0i]
theorem z59(l1:Nat→Nat)(n1:Nat)(l2:Nat→Nat)(n2:Nat):∀S:List Sy,(S.flatMap (wsy l1 n1 l2 n2)).length=wgh l1 l2 S
 |[]=>rfl
 |y::S=>by rw[List.flatMap_cons,qA,z8y,z59 l1 n1 l2 n2 S];rfl
theorem z5t(l1 l2:Nat→Nat):∀S:List Sy,(∀y∈S,(y.d=false→y.n<286)∧(y.d=true→y.n<30))→wgh l1 l2 S=sm (fun s=>l1 s*cs false S s) 286+sm (fun s=>l2 s*cs true S s) 30+smb S
 |[],_=>by simp[wgh,smb,cs,z1H]
 |y::S,h=>by
  have ih:=z5t l1 l2 S (fun z hz=>h z (List.mem_cons_of_mem _ hz));have hy:=h y List.mem_cons_self
  have e1:∀b (l:Nat→Nat) n,sm (fun s=>l s*cs b (y::S) s) n=sm (fun s=>l s*cs b S s) n+sm (fun s=>if y.n=s then(if y.d=b then l s else 0) else 0) n:=fun b l n=>by
   rw[←z5G];refine sm_congr n (fun s _=> ?_);simp only[cs];by_cases q:y.n=s
   · by_cases r:y.d=b
     · rw[if_pos ⟨r,q⟩,if_pos q,if_pos r,Nat.mul_add,Nat.mul_one]
     · rw[if_neg (fun g=>r g.1),if_pos q,if_neg r,Nat.add_zero,Nat.add_zero]
   · rw[if_neg (fun g=>q g.2),if_neg q,Nat.add_zero,Nat.add_zero]
  rw[e1,e1];unfold wgh smb;rw[ih];cases hd:y.d with
  |false=>
   rw[zfQ (fun s=>if(false:Bool)=false then l1 s else 0) (hy.1 hd)];simp only[if_true,Bool.false_eq_true,if_false,ite_self,z1H];omega
  |true=>
   rw[zfQ (fun s=>if(true:Bool)=true then l2 s else 0) (hy.2 hd)];simp only[if_true,Bool.true_eq_false,if_false,ite_self,z1H];omega
theorem zeZ(s:Nat):1≤fxl s∧fxl s≤15:=by unfold fxl;split<;>(try split)<;>(try split)<;>omega
theorem zeH:∀ (S:List Rn) (y:Rn),y∈S→0<rc S y.s
 |x::S,y,h=>by
  simp only[rc];rcases List.mem_cons.1 h with rfl|g
  · rw[if_pos rfl];omega
  · have:=zeH S y g;omega
theorem zd2(L:List Tk):∃r S,rrs L=r::S∧r.s<19:=by
 obtain⟨l,hl⟩:∃l,(lx1 L).take (upt (lx1 L) 257)++(lx2 L).take (upt (lx2 L) 1)=l:=⟨_,rfl⟩
 have h1:(lx1 L).length=286:=by unfold lx1;simp
 have hv:∀v∈l,v≤15:=fun v hv=>by
  rw[←hl] at hv;rcases List.mem_append.1 hv with g|g
  · obtain⟨i,_,rfl⟩:=List.mem_map.1 (List.mem_of_mem_take g)
    exact z0e _ (by decide) (by decide) i
  · obtain⟨i,_,rfl⟩:=List.mem_map.1 (List.mem_of_mem_take g)
    exact z0e _ (by decide) (by decide) i
 have hlen:257≤l.length:=by
  rw[←hl,qA,List.length_take,h1];have:=(z1f (lx1 L) 257).1;omega
 have hr:rrs L=pk l:=by unfold rrs;rw[hl]
 have hp:=zhq (n:=l.length) (L:=[]) l [] (fun v g=>by have:=hv v g;omega) (by simp);have ho:=zdp l hv;rw[hr]
 match hq:pk l with
 |[]=>
  rw[hq] at hp;simp only[List.append_nil,List.nil_append,unp,List.length_nil] at hp;rw[if_pos (by omega),if_neg (by omega)] at hp;cases hp
 |r::S=>exact⟨r,S,rfl,by have:=(ho r (by rw[hq];exact List.mem_cons_self)).1;omega⟩
theorem zdW(L:List Tk):14+4*3<(hdd L).length:=by
 have h3:=z2p (ll3 L);have hu:=z1f (inl (ll3 L)) 4;obtain⟨r,S,hr,hs⟩:=zd2 L;have hp:0<rc (rrs L) r.s:=zeH _ _ (by rw[hr];exact List.mem_cons_self)
 have hz:ll3 L r.s≠0:=fun q=>by
  have:=(z4N (z57 (rc (rrs L)) 19) (z62 _ (by decide) (by decide)) (by decide:1≤7) hs).1 q;omega
 have hw:1≤((rrs L).flatMap (wrn (ll3 L))).length:=by
  rw[hr,List.flatMap_cons,qA];unfold wrn;rw[qA,z0i];omega
 unfold hdd dyb;simp only[qA,z02,z2D,List.length_take];omega
end Go.Proofs.YtacelhaidcmbcaaGreatDoor.V
