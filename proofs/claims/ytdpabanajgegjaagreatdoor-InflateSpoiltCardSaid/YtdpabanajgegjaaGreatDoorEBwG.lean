import Derived.Test.YtdpabanajgegjaaGreatDoorEMRns
import Derived.Test.YtdpabanajgegjaaGreatDoorEMPkE
import Derived.BigRegion
namespace Go.Proofs.YtdpabanajgegjaaGreatDoor.V
open Go.Lib (hid)
open Go Go.RowKit M U
set_option linter.unusedVariables false
set_option linter.unusedSimpArgs false
def two(a b:Value)(i:Nat):Value:=if i=0 then a else b
def C2(w:World)(g:Nat)(a b:Value):Prop:=w.rowIs g 77 2 (two a b)
section
variable {w w':World} {g:Nat} {a b:Value}
theorem C2.new(w:World)(a b:Value):C2 (w.alloc (.cells #[a,b] 77)) w.heap.size a b:=⟨#[a,b],heap_alloc_new _ _,rfl,fun i hi=>by
 match i,hi with
 |0,_=>rfl
 |1,_=>rfl⟩
theorem C2.alloc(h:C2 w g a b)(o:Obj):C2 (w.alloc o) g a b:=World.rowIs.alloc h o
theorem C2.other(h:C2 w g a b){x:Addr}(hx:g≠x.block)(u:Value):C2 (w.setCell x u) g a b:=World.rowIs.setOther h hx u
theorem C2.at0(h:C2 w g a b):w.cell? ⟨g,0,none⟩=some a:=World.rowIs.cell h (i:=0) (by omega)
theorem C2.at1(h:C2 w g a b):w.cell? ⟨g,1,none⟩=some b:=World.rowIs.cell h (i:=1) (by omega)
theorem C2.frozen(h:C2 w g a b)(i:Nat):w.frozen? ⟨g,i,none⟩=false:=World.rowIs.frozen h i
theorem C2.put(h:C2 w g a b)(c d:Value):C2 ((w.setCell ⟨g,0,none⟩ c).setCell ⟨g,1,none⟩ d) g c d:=
 World.rowIs.congr (World.rowIs.set (World.rowIs.set h 0 c) 1 d) (fun j hj=>by
  match j,hj with
  |0,_=>rfl
  |1,_=>rfl)
theorem C2.row(h:C2 w g a b):w.heap[g]? =some (.cells #[a,b] 77 (0,0)):=by
 obtain⟨c,h1,h2,h3⟩:=h
 have:c= #[a,b]:=by
  apply Array.ext_getElem?
  intro i
  match i with
  |0=>exact h3 0 (by omega)
  |1=>exact h3 1 (by omega)
  |i+2=>rw[Array.getElem?_eq_none (by omega),Array.getElem?_eq_none (by simp)]
 rw[h1,this]
end
theorem codesSize:(Tryz.prog.info? 77).map (fun i=>i.size)=some 2:=by kernel_rfl
def fxl(j:Nat):Nat:=if j<144 then 8 else if j<256 then 9 else if j<280 then 7 else 8
structure Fx(w0 w:World)(cb la da:Nat)(f g:Nat→Nat):Prop where
 r:C2 w w0.heap.size (.slice none 0 0) (.slice none 0 0)
 c:C2 w cb (.slice (some ⟨la,0,none⟩) 288 288) (.slice (some ⟨da,0,none⟩) 30 30)
 l:Br w la 288 f
 d:Br w da 30 g
 gc:w0.heap.size<cb
 gl:w0.heap.size<la
 gd:w0.heap.size<da
 nl:cb≠la
 nd:cb≠da
 ne:la≠da
 b:Below w0.heap.size w0 w
section
variable {w0 w:World} {cb la da:Nat} {f g:Nat→Nat}
theorem Fx.setL(h:Fx w0 w cb la da f g)(i x:Nat):Fx w0 (w.setCell ⟨la,i,none⟩ (.int .u8 x)) cb la da (fun j=>if j=i then x else f j) g:=
 ⟨h.r.other (Nat.ne_of_lt h.gl) _,h.c.other h.nl _,h.l.set i x,h.d.other (fun e=>h.ne e.symm) _,h.gc,h.gl,h.gd,h.nl,h.nd,h.ne,h.b.setCell (Nat.le_of_lt h.gl) _⟩
theorem Fx.setD(h:Fx w0 w cb la da f g)(i x:Nat):Fx w0 (w.setCell ⟨da,i,none⟩ (.int .u8 x)) cb la da f (fun j=>if j=i then x else g j):=
 ⟨h.r.other (Nat.ne_of_lt h.gd) _,h.c.other h.nd _,h.l.other h.ne _,h.d.set i x,h.gc,h.gl,h.gd,h.nl,h.nd,h.ne,h.b.setCell (Nat.le_of_lt h.gd) _⟩
theorem Fx.congr{f' g':Nat→Nat}(h:Fx w0 w cb la da f g)(e:∀i,i<288→f i=f' i)(e2:∀i,i<30→g i=g' i):Fx w0 w cb la da f' g':=
 ⟨h.r,h.c,h.l.congr e,h.d.congr e2,h.gc,h.gl,h.gd,h.nl,h.nd,h.ne,h.b⟩
end
theorem heap4(w:World)(o0 o1 o2 o3:Obj):((((w.alloc o0).alloc o1).alloc o2).alloc o3).heap[w.heap.size]? =some o0∧((((w.alloc o0).alloc o1).alloc o2).alloc o3).heap[w.heap.size+1]? =some o1∧((((w.alloc o0).alloc o1).alloc o2).alloc o3).heap[w.heap.size+1+1]? =some o2∧((((w.alloc o0).alloc o1).alloc o2).alloc o3).heap[w.heap.size+1+1+1]? =some o3∧Below w.heap.size w ((((w.alloc o0).alloc o1).alloc o2).alloc o3):=by
 have s0:(w.alloc o0).heap.size=w.heap.size+1:=by simp
 have s1:((w.alloc o0).alloc o1).heap.size=w.heap.size+1+1:=by simp
 have s2:(((w.alloc o0).alloc o1).alloc o2).heap.size=w.heap.size+1+1+1:=by simp
 have a0:=heap_alloc_new w o0;have a1:=heap_alloc_new (w.alloc o0) o1;have a2:=heap_alloc_new ((w.alloc o0).alloc o1) o2;have a3:=heap_alloc_new (((w.alloc o0).alloc o1).alloc o2) o3;rw[s0] at a1;rw[s1] at a2;rw[s2] at a3;refine⟨?_,?_,?_,a3,(((((Below.refl _ _).alloc (Nat.le_refl _) _).alloc (by omega) _).alloc (by omega) _).alloc (by omega) _)⟩
 · rw[Below.heap_alloc _ _ _ (by omega),Below.heap_alloc _ _ _ (by omega),Below.heap_alloc _ _ _ (by omega)];exact a0
 · rw[Below.heap_alloc _ _ _ (by omega),Below.heap_alloc _ _ _ (by omega)];exact a1
 · rw[Below.heap_alloc _ _ _ (by omega)];exact a2
theorem Fx.start{w w3:World}{cb la da:Nat}(hr:w3.heap[w.heap.size]? =some (.cells #[.slice none 0 0,.slice none 0 0] 77))
 (hc:w3.heap[cb]? =some (.cells #[.slice (some ⟨la,0,none⟩) 288 288,.slice (some ⟨da,0,none⟩) 30 30] 77)) (hl:w3.heap[la]? =some (.cells (madeCells #[.int .u8 0] 288) 5)) (hd:w3.heap[da]? =some (.cells (madeCells #[.int .u8 0] 30) 5))
 (hb:Below w.heap.size w w3) (gc:w.heap.size<cb) (gl:w.heap.size<la) (gd:w.heap.size<da) (nl:cb≠la) (nd:cb≠da) (ne:la≠da):
 Fx w w3.drew cb la da (fun _=>0) (fun _=>0):=
 ⟨⟨_,hr,rfl,fun i hi=>by
   match i,hi with
   |0,_=>rfl
   |1,_=>rfl⟩,⟨_,hc,rfl,fun i hi=>by
   match i,hi with
   |0,_=>rfl
   |1,_=>rfl⟩,⟨_,hl,by simp[size_madeCells],fun i hi=>by simp[madeCells,hi,Nat.mod_one]⟩,⟨_,hd,by simp[size_madeCells],fun i hi=>by simp[madeCells,hi,Nat.mod_one]⟩,gc,gl,gd,nl,nd,ne,hb.drew⟩
theorem Fx.s1(w:World):Fx w ((((w.alloc (.cells #[.slice none 0 0,.slice none 0 0] 77)).alloc (.cells (madeCells #[.int .u8 0] 288) 5)).alloc (.cells (madeCells #[.int .u8 0] 30) 5)).alloc (.cells #[.slice (some ⟨w.heap.size+1,0,none⟩) 288 288,.slice (some ⟨w.heap.size+1+1,0,none⟩) 30 30] 77)).drew (w.heap.size+1+1+1) (w.heap.size+1) (w.heap.size+1+1) (fun _=>0) (fun _=>0):=by
 obtain⟨a0,a1,a2,a3,b⟩:=heap4 w (.cells #[.slice none 0 0,.slice none 0 0] 77) (.cells (madeCells #[.int .u8 0] 288) 5) (.cells (madeCells #[.int .u8 0] 30) 5) (.cells #[.slice (some ⟨w.heap.size+1,0,none⟩) 288 288,.slice (some ⟨w.heap.size+1+1,0,none⟩) 30 30] 77);exact Fx.start a0 a3 a1 a2 b (by omega) (by omega) (by omega) (by omega) (by omega) (by omega)
theorem Fx.s2(w:World):Fx w ((((w.alloc (.cells #[.slice none 0 0,.slice none 0 0] 77)).alloc (.cells (madeCells #[.int .u8 0] 288) 5)).alloc (.cells #[.slice (some ⟨w.heap.size+1,0,none⟩) 288 288,.slice (some ⟨w.heap.size+1+1+1,0,none⟩) 30 30] 77)).alloc (.cells (madeCells #[.int .u8 0] 30) 5)).drew (w.heap.size+1+1) (w.heap.size+1) (w.heap.size+1+1+1) (fun _=>0) (fun _=>0):=by
 obtain⟨a0,a1,a2,a3,b⟩:=heap4 w (.cells #[.slice none 0 0,.slice none 0 0] 77) (.cells (madeCells #[.int .u8 0] 288) 5) (.cells #[.slice (some ⟨w.heap.size+1,0,none⟩) 288 288,.slice (some ⟨w.heap.size+1+1+1,0,none⟩) 30 30] 77) (.cells (madeCells #[.int .u8 0] 30) 5);exact Fx.start a0 a2 a1 a3 b (by omega) (by omega) (by omega) (by omega) (by omega) (by omega)
theorem Fx.s3(w:World):Fx w ((((w.alloc (.cells #[.slice none 0 0,.slice none 0 0] 77)).alloc (.cells (madeCells #[.int .u8 0] 30) 5)).alloc (.cells (madeCells #[.int .u8 0] 288) 5)).alloc (.cells #[.slice (some ⟨w.heap.size+1+1,0,none⟩) 288 288,.slice (some ⟨w.heap.size+1,0,none⟩) 30 30] 77)).drew (w.heap.size+1+1+1) (w.heap.size+1+1) (w.heap.size+1) (fun _=>0) (fun _=>0):=by
 obtain⟨a0,a1,a2,a3,b⟩:=heap4 w (.cells #[.slice none 0 0,.slice none 0 0] 77) (.cells (madeCells #[.int .u8 0] 30) 5) (.cells (madeCells #[.int .u8 0] 288) 5) (.cells #[.slice (some ⟨w.heap.size+1+1,0,none⟩) 288 288,.slice (some ⟨w.heap.size+1,0,none⟩) 30 30] 77);exact Fx.start a0 a3 a2 a1 b (by omega) (by omega) (by omega) (by omega) (by omega) (by omega)
theorem Fx.s4(w:World):Fx w ((((w.alloc (.cells #[.slice none 0 0,.slice none 0 0] 77)).alloc (.cells (madeCells #[.int .u8 0] 30) 5)).alloc (.cells #[.slice (some ⟨w.heap.size+1+1+1,0,none⟩) 288 288,.slice (some ⟨w.heap.size+1,0,none⟩) 30 30] 77)).alloc (.cells (madeCells #[.int .u8 0] 288) 5)).drew (w.heap.size+1+1) (w.heap.size+1+1+1) (w.heap.size+1) (fun _=>0) (fun _=>0):=by
 obtain⟨a0,a1,a2,a3,b⟩:=heap4 w (.cells #[.slice none 0 0,.slice none 0 0] 77) (.cells (madeCells #[.int .u8 0] 30) 5) (.cells #[.slice (some ⟨w.heap.size+1+1+1,0,none⟩) 288 288,.slice (some ⟨w.heap.size+1,0,none⟩) 30 30] 77) (.cells (madeCells #[.int .u8 0] 288) 5);exact Fx.start a0 a2 a3 a1 b (by omega) (by omega) (by omega) (by omega) (by omega) (by omega)
theorem Fx.s5(w:World):Fx w ((((w.alloc (.cells #[.slice none 0 0,.slice none 0 0] 77)).alloc (.cells #[.slice (some ⟨w.heap.size+1+1,0,none⟩) 288 288,.slice (some ⟨w.heap.size+1+1+1,0,none⟩) 30 30] 77)).alloc (.cells (madeCells #[.int .u8 0] 288) 5)).alloc (.cells (madeCells #[.int .u8 0] 30) 5)).drew (w.heap.size+1) (w.heap.size+1+1) (w.heap.size+1+1+1) (fun _=>0) (fun _=>0):=by
 obtain⟨a0,a1,a2,a3,b⟩:=heap4 w (.cells #[.slice none 0 0,.slice none 0 0] 77) (.cells #[.slice (some ⟨w.heap.size+1+1,0,none⟩) 288 288,.slice (some ⟨w.heap.size+1+1+1,0,none⟩) 30 30] 77) (.cells (madeCells #[.int .u8 0] 288) 5) (.cells (madeCells #[.int .u8 0] 30) 5);exact Fx.start a0 a1 a2 a3 b (by omega) (by omega) (by omega) (by omega) (by omega) (by omega)
theorem Fx.s6(w:World):Fx w ((((w.alloc (.cells #[.slice none 0 0,.slice none 0 0] 77)).alloc (.cells #[.slice (some ⟨w.heap.size+1+1+1,0,none⟩) 288 288,.slice (some ⟨w.heap.size+1+1,0,none⟩) 30 30] 77)).alloc (.cells (madeCells #[.int .u8 0] 30) 5)).alloc (.cells (madeCells #[.int .u8 0] 288) 5)).drew (w.heap.size+1) (w.heap.size+1+1+1) (w.heap.size+1+1) (fun _=>0) (fun _=>0):=by
 obtain⟨a0,a1,a2,a3,b⟩:=heap4 w (.cells #[.slice none 0 0,.slice none 0 0] 77) (.cells #[.slice (some ⟨w.heap.size+1+1+1,0,none⟩) 288 288,.slice (some ⟨w.heap.size+1+1,0,none⟩) 30 30] 77) (.cells (madeCells #[.int .u8 0] 30) 5) (.cells (madeCells #[.int .u8 0] 288) 5);exact Fx.start a0 a1 a3 a2 b (by omega) (by omega) (by omega) (by omega) (by omega) (by omega)
set_option maxRecDepth 1000000 in
set_option maxHeartbeats 4000000 in
theorem fixed_any(w:World):Calls Tryz.prog 41 #[] w fun e w'=> ∃la da,e=.returned (.agg #[.slice (some ⟨la,0,none⟩) 288 288,.slice (some ⟨da,0,none⟩) 30 30])∧w.heap.size≤la∧w.heap.size≤da∧Br w' la 288 fxl∧Br w' da 30 (fun _=>5)∧Below w.heap.size w w':=by
 have hmk1:∀w,(Instr.makeSlice 23 (.int .i64 288) (.int .i64 288)).run Tryz.prog w=.ok (.slice (some ⟨w.heap.size,0,none⟩) 288 288) (w.alloc (.cells (madeCells #[.int .u8 0] 288) 5)):=fun w=>madeByte w 288 (by omega)
 have hmk2:∀w,(Instr.makeSlice 23 (.int .i64 30) (.int .i64 30)).run Tryz.prog w=.ok (.slice (some ⟨w.heap.size,0,none⟩) 30 30) (w.alloc (.cells (madeCells #[.int .u8 0] 30) 5)):=fun w=>madeByte w 30 (by omega)
 go_enter Tryz.func41,Tryz.ntmps41;go_wp2_with fail
 go_region
 all_goals go_wp2_with fail
 all_goals clear hmk1 hmk2
 have h0:=Fx.s1 w;generalize w.heap.size+1+1+1=cb at h0 ⊢;generalize w.heap.size+1+1=da at h0 ⊢;generalize w.heap.size+1=la at h0 ⊢;have H0:=hid h0;clear h0;rotate_left;have h0:=Fx.s2 w;generalize w.heap.size+1+1+1=da at h0 ⊢;generalize w.heap.size+1+1=cb at h0 ⊢;generalize w.heap.size+1=la at h0 ⊢;have H0:=hid h0;clear h0;rotate_left;have h0:=Fx.s3 w;generalize w.heap.size+1+1+1=cb at h0 ⊢;generalize w.heap.size+1+1=la at h0 ⊢;generalize w.heap.size+1=da at h0 ⊢;have H0:=hid h0;clear h0;rotate_left;have h0:=Fx.s4 w;generalize w.heap.size+1+1+1=la at h0 ⊢;generalize w.heap.size+1+1=cb at h0 ⊢;generalize w.heap.size+1=da at h0 ⊢;have H0:=hid h0;clear h0;rotate_left;have h0:=Fx.s5 w;generalize w.heap.size+1+1+1=da at h0 ⊢;generalize w.heap.size+1+1=la at h0 ⊢;generalize w.heap.size+1=cb at h0 ⊢;have H0:=hid h0;clear h0;rotate_left;have h0:=Fx.s6 w;generalize w.heap.size+1+1+1=la at h0 ⊢;generalize w.heap.size+1+1=da at h0 ⊢;generalize w.heap.size+1=cb at h0 ⊢;have H0:=hid h0;clear h0;rotate_left
 all_goals (
  go_loopw [2] (fun x wr=> ∃i,x=.int .i64 (i:Nat)∧i≤288∧Fx w wr cb la da (fun j=>if j<i then fxl j else 0) (fun _=>0)) (fun x _=>288 - (intOf x).toNat)
  case atStart=>exact⟨0,rfl,Nat.zero_le _,H0.out.congr (fun i _=>by rw[if_neg (by omega)]) (fun i _=>rfl)⟩
  case round=>
   obtain⟨i,rfl,hi,hf⟩:=hrel;have c0:=hf.c.at0;have HF:=hid hf;by_cases hlt:i<288
   · have d1:decide ((i:Int)<288)=true:=decide_eq_true (by omega)
     have d1':decide (i<288)=true:=decide_eq_true hlt;have f3:=hf.l.frozen i;have x3:=hf.l.cell hlt
     have hN:∀y,fxl i=y→Hid (Fx w (wr.setCell ⟨la,i,none⟩ (.int .u8 (y:Nat))) cb la da (fun j=>if j<i+1 then fxl j else 0) (fun _=>0)):=fun y hy=>hid ((hf.setL i y).congr (fun j hj=>by
      by_cases e:j=i
      · rw[if_pos e,if_pos (by omega),e,hy]
      · rw[if_neg e]
        by_cases q:j<i
        · rw[if_pos q,if_pos (by omega)]
        · rw[if_neg q,if_neg (by omega)]) (fun _ _=>rfl))
     by_cases h1:i<144
     · have e1:decide ((i:Int)<144)=true:=decide_eq_true (by omega)
       have e1':decide (i<144)=true:=decide_eq_true h1;have HN:=hN 8 (by unfold fxl;rw[if_pos h1]);clear hN hf h1;go_wp2_with fail;go_roundw
       case rel=>exact⟨i+1,by go_num,by omega,HN.out⟩
       case measure=>(simp[intOf];try omega)
     · have e1:decide ((i:Int)<144)=false:=decide_eq_false (by omega)
       have e1':decide (i<144)=false:=decide_eq_false h1;by_cases h2:i<256
       · have e2:decide ((i:Int)<256)=true:=decide_eq_true (by omega)
         have e2':decide (i<256)=true:=decide_eq_true h2;have HN:=hN 9 (by unfold fxl;rw[if_neg h1,if_pos h2]);clear hN hf h1 h2;go_wp2_with fail;go_roundw
         case rel=>exact⟨i+1,by go_num,by omega,HN.out⟩
         case measure=>(simp[intOf];try omega)
       · have e2:decide ((i:Int)<256)=false:=decide_eq_false (by omega)
         have e2':decide (i<256)=false:=decide_eq_false h2;by_cases h3:i<280
         · have e3:decide ((i:Int)<280)=true:=decide_eq_true (by omega)
           have e3':decide (i<280)=true:=decide_eq_true h3;have HN:=hN 7 (by unfold fxl;rw[if_neg h1,if_neg h2,if_pos h3]);clear hN hf h1 h2 h3;go_wp2_with fail;go_roundw
           case rel=>exact⟨i+1,by go_num,by omega,HN.out⟩
           case measure=>(simp[intOf];try omega)
         · have e3:decide ((i:Int)<280)=false:=decide_eq_false (by omega)
           have e3':decide (i<280)=false:=decide_eq_false h3;have HN:=hN 8 (by unfold fxl;rw[if_neg h1,if_neg h2,if_neg h3]);clear hN hf h1 h2 h3;go_wp2_with fail;go_roundw
           case rel=>exact⟨i+1,by go_num,by omega,HN.out⟩
           case measure=>(simp[intOf];try omega)
   · obtain rfl:i=288:=by omega
     have HG:=hid (hf.congr (f':=fxl) (g':=fun _=>0) (fun j hj=>by rw[if_pos hj]) (fun _ _=>rfl));clear hf HF;go_wp2_with fail
     go_loopw [3] (fun x wr=> ∃k,x=.int .i64 (k:Nat)∧k≤30∧Fx w wr cb la da fxl (fun j=>if j<k then 5 else 0)) (fun x _=>30 - (intOf x).toNat)
     case atStart=>exact⟨0,rfl,Nat.zero_le _,HG.out.congr (fun _ _=>rfl) (fun j _=>by rw[if_neg (by omega)])⟩
     case round=>
      obtain⟨k,rfl,hk,hg⟩:=hrel;have c1:=hg.c.at1;have HK:=hid hg;by_cases hlt2:k<30
      · have d2:decide ((k:Int)<30)=true:=decide_eq_true (by omega)
        have d2':decide (k<30)=true:=decide_eq_true hlt2;have f3:=hg.d.frozen k;have x3:=hg.d.cell hlt2
        have HN:=hid ((hg.setD k 5).congr (g':=fun j=>if j<k+1 then 5 else 0) (fun _ _=>rfl) (fun j hj=>by
         by_cases e:j=k
         · rw[if_pos e,if_pos (by omega)]
         · rw[if_neg e]
           by_cases q:j<k
           · rw[if_pos q,if_pos (by omega)]
           · rw[if_neg q,if_neg (by omega)]))
        clear hg;go_wp2_with fail;go_roundw
        case rel=>exact⟨k+1,by go_num,by omega,HN.out⟩
        case measure=>(simp[intOf];try omega)
      · obtain rfl:k=30:=by omega
        have c0:=hg.c.at0;have r0:=hg.r.at0;have r1:=hg.r.at1;have g0:=hg.r.frozen 0;have g1:=hg.r.frozen 1;have HR:=hid (hg.r.put (.slice (some ⟨la,0,none⟩) 288 288) (.slice (some ⟨da,0,none⟩) 30 30));have HL:=hid ((hg.l.other (a:=⟨w.heap.size,0,none⟩) (fun e=>Nat.ne_of_lt hg.gl e.symm) (.slice (some ⟨la,0,none⟩) 288 288)).other (a:=⟨w.heap.size,1,none⟩) (fun e=>Nat.ne_of_lt hg.gl e.symm) (.slice (some ⟨da,0,none⟩) 30 30));have HD:=hid (((hg.d.congr (f':=fun _=>5) (fun j hj=>by rw[if_pos hj])).other (a:=⟨w.heap.size,0,none⟩) (fun e=>Nat.ne_of_lt hg.gd e.symm) (.slice (some ⟨la,0,none⟩) 288 288)).other (a:=⟨w.heap.size,1,none⟩) (fun e=>Nat.ne_of_lt hg.gd e.symm) (.slice (some ⟨da,0,none⟩) 30 30));have HW:=hid ((hg.b.setCell (p:=⟨w.heap.size,0,none⟩) (Nat.le_refl _) (.slice (some ⟨la,0,none⟩) 288 288)).setCell (p:=⟨w.heap.size,1,none⟩) (Nat.le_refl _) (.slice (some ⟨da,0,none⟩) 30 30));have HQ:=hid (show w.heap.size≤la∧w.heap.size≤da from⟨Nat.le_of_lt hg.gl,Nat.le_of_lt hg.gd⟩);clear hg HG HK;go_wp2_with fail;refine bodyPost_ret (v:=.agg #[.slice (some ⟨la,0,none⟩) 288 288,.slice (some ⟨da,0,none⟩) 30 30]) (results_cell_row rfl _ _ w.heap.size _ _ _ _ rfl HR.out.row Tryz.underlying77 rfl codesSize) rfl ⟨la,da,rfl,HQ.out.1,HQ.out.2,HL.out,HD.out,HW.out⟩)
end Go.Proofs.YtdpabanajgegjaaGreatDoor.V
