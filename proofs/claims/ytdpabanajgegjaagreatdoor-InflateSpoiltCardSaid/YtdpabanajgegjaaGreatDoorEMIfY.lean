/- Texts of one place, one behind the other: IfY, IfZ, IfA. -/
import Derived.Test.YtdpabanajgegjaaGreatDoorEMIfU
import Derived.Test.YtdpabanajgegjaaGreatDoorEBpB
import Derived.Test.YtdpabanajgegjaaGreatDoorEMSaA
set_option maxRecDepth 1000000
set_option linter.unusedVariables false
set_option linter.unusedSimpArgs false
namespace Go.Proofs.YtdpabanajgegjaaGreatDoor.I
open Go.Lib (hid)
open Go Go.RowKit M
def NewT(W:World)(l:Nat→Nat)(n:Nat)(e:Ending)(w':World):Prop:=∃p,e=.returned (.pointer (some ⟨p,0,none⟩))∧W.heap.size≤p∧Below W.heap.size W w'∧∀r,r<W.heap.size→Tb w' r p l n
def Fails(W:World)(c:Nat)(e:Ending)(w':World):Prop:=e=.panicked (flt c)∧Below W.heap.size W w'
theorem kb{w w':World}(hk:Kept NoB w w'):Below w.heap.size w w':=hk.below (Nat.le_refl _) (fun _ e=>e.elim)
theorem tableOf_yes(A:Option Addr)(n c:Nat)(l:Nat→Nat)(f:Nat)(W:World)(hl:∀i,l i≤255)(Hn:Nums W .u8 A n (fun i=>(l i:Int)))(ht:Tbl l n)(h1:1≤f)(hf:f≤15):
 Calls Tryz.prog 164 #[.slice A n c,.int .i64 f] W (NewT W l n):=by
 have HN:=hid (H.new_ok_any A n c l f W hl Hn ht h1 hf);have HT:=hid ht;clear Hn hl ht;unfold NewT;go_enter Tryz.func164,Tryz.ntmps164;go_wp2_with (go_at_call 201;(with_reducible refine HN.out.mono ?_);rintro e w1 ⟨T,p,m,G,N,D,rfl,hp,hq,hb⟩;have HQ:=hid hq;have HB:=hid hb;clear hq hb);go_ret;exact⟨p,rfl,hp,HB.out,fun r hr=>⟨HT.out,by omega,T,m,G,N,D,f,h1,hf,HQ.out⟩⟩
theorem tableOf_no(A:Option Addr)(n c:Nat)(l:Nat→Nat)(f:Nat)(W:World)(hn:n≤maxLen)(hl:∀i,l i≤255)(Hn:Nums W .u8 A n (fun i=>(l i:Int)))(ht:¬Tbl l n)(h1:1≤f)(hf:f≤15):
 Calls Tryz.prog 164 #[.slice A n c,.int .i64 f] W (Fails W 162):=by
 have hne:H.nerr l n f≠0:=fun e=>ht (H.nerr_ok e).2
 have hle:H.nerr l n f≤7:=by unfold H.nerr;split<;>(try split)<;>omega
 have HN:=hid (H.new_no_any A n c l f W hn hl Hn hne);obtain⟨E,hE⟩:∃E,H.nerr l n f=E:=⟨_,rfl⟩
 rw[hE] at HN hne hle;have d0:((E:Int) !=0)=true:=by rw[bne_iff_ne];omega
 clear Hn hl ht hE hn;unfold Fails;go_enter Tryz.func164,Tryz.ntmps164
 go_wp2_with (first
  |(go_at_call 201;(with_reducible refine HN.out.mono ?_);rintro e w1 ⟨rfl,hb⟩;have HB:=hid hb;clear hb)
  |(go_at_call 92;(with_reducible refine(fail_162 _).mono ?_);rintro e w4 ⟨rfl,k4⟩;have K4:=hid k4;clear k4))
 exact⟨rfl,rfl,HB.out.trans ((kb K4.out).mono HB.out.size)⟩
theorem tableOf_9(A:Option Addr)(n c:Nat)(l:Nat→Nat)(W:World)(hl:∀i,l i≤255)(Hn:Nums W .u8 A n (fun i=>(l i:Int)))(ht:Tbl l n):Calls Tryz.prog 164 #[.slice A n c,.int .i64 9] W (NewT W l n):=tableOf_yes A n c l 9 W hl Hn ht (by omega) (by omega)
theorem tableOf_9n(A:Option Addr)(n c:Nat)(l:Nat→Nat)(W:World)(hn:n≤maxLen)(hl:∀i,l i≤255)(Hn:Nums W .u8 A n (fun i=>(l i:Int)))(ht:¬Tbl l n):Calls Tryz.prog 164 #[.slice A n c,.int .i64 9] W (Fails W 162):=tableOf_no A n c l 9 W hn hl Hn ht (by omega) (by omega)
theorem tableOf_6(A:Option Addr)(n c:Nat)(l:Nat→Nat)(W:World)(hl:∀i,l i≤255)(Hn:Nums W .u8 A n (fun i=>(l i:Int)))(ht:Tbl l n):Calls Tryz.prog 164 #[.slice A n c,.int .i64 6] W (NewT W l n):=tableOf_yes A n c l 6 W hl Hn ht (by omega) (by omega)
theorem tableOf_6n(A:Option Addr)(n c:Nat)(l:Nat→Nat)(W:World)(hn:n≤maxLen)(hl:∀i,l i≤255)(Hn:Nums W .u8 A n (fun i=>(l i:Int)))(ht:¬Tbl l n):Calls Tryz.prog 164 #[.slice A n c,.int .i64 6] W (Fails W 162):=tableOf_no A n c l 6 W hn hl Hn ht (by omega) (by omega)
theorem tableOf_7(A:Option Addr)(n c:Nat)(l:Nat→Nat)(W:World)(hl:∀i,l i≤255)(Hn:Nums W .u8 A n (fun i=>(l i:Int)))(ht:Tbl l n):Calls Tryz.prog 164 #[.slice A n c,.int .i64 7] W (NewT W l n):=tableOf_yes A n c l 7 W hl Hn ht (by omega) (by omega)
def NewTs(W:World)(l:Nat→Nat)(n:Nat)(d:Nat→Nat)(m:Nat)(e:Ending)(w':World):Prop:=∃p1 p2,e=.returned (.agg #[.pointer (some ⟨p1,0,none⟩),.pointer (some ⟨p2,0,none⟩)])∧W.heap.size≤p1∧W.heap.size≤p2∧Below W.heap.size W w'∧∀r,r<W.heap.size→Tb w' r p1 l n∧Tb w' r p2 d m
theorem Tb.below{w w':World}{r p n:Nat}{l:Nat→Nat}(h:Tb w r p l n)(hb:Below w.heap.size w w'):Tb w' r p l n:=by
 obtain⟨T,m,G,N,D,f,f1,f2,hp⟩:=h.ex;exact⟨h.tbl,h.ne,T,m,G,N,D,f,f1,f2,hp.below hb⟩
theorem tabsSize:(Tryz.prog.info? 105).map (fun i=>i.size)=some 2:=by kernel_rfl
theorem two_put{w:World}{b:Nat}{T:TypeId}{x y:Value}(h:w.heap[b]? =some (.cells #[x,y] T (0,0)))(u v:Value):((w.setCell ⟨b,0,none⟩ u).setCell ⟨b,1,none⟩ v).heap[b]? =some (.cells #[u,v] T (0,0)):=by
 have h1:(w.setCell ⟨b,0,none⟩ u).heap[b]? =some (.cells #[u,y] T (0,0)):=by
  rw[setCell_eq_setRow w b 0 _ _ _ _ h,setRow_heap w b _ _ _ _ h];rfl
 rw[setCell_eq_setRow _ b 1 _ _ _ _ h1,setRow_heap _ b _ _ _ _ h1];rfl
theorem two_at{w:World}{b:Nat}{T:TypeId}{x y:Value}(h:w.heap[b]? =some (.cells #[x,y] T (0,0))):w.cell? ⟨b,0,none⟩=some x∧w.cell? ⟨b,1,none⟩=some y∧w.frozen? ⟨b,0,none⟩=false∧w.frozen? ⟨b,1,none⟩=false:=by
 refine⟨?_,?_,?_,?_⟩<;>simp[World.cell?,World.frozen?,h]
theorem Tb.keptN{S:Nat→Prop}{w w':World}{r p n:Nat}{l:Nat→Nat}(h:Tb w r p l n)(hk:Kept S w w')(hS:∀j,S j→NoT w j):Tb w' r p l n:=by
 obtain⟨T,m,G,N,D,f,f1,f2,hp⟩:=h.ex
 have hm:∃es clock,w.heap[m]? =some (.map es clock):=by
  obtain⟨es,clock,e1,_⟩:=hp.own;exact⟨es,clock,e1⟩
 refine⟨h.tbl,h.ne,T,m,G,N,D,f,f1,f2,Hp.kept hp hk (fun q=> ?_) (fun q=> ?_) (fun b s z e q=> ?_)⟩
 · obtain⟨v,g1,g2⟩:=hS _ q
   rw[hp.c0] at g1;cases g1
   exact(g2 _).1 rfl
 · obtain⟨es,clock,e⟩:=hm
   obtain⟨v,g1,g2⟩:=hS _ q;rw[cells_no e] at g1;cases g1
 · obtain⟨v,g1,g2⟩:=hS _ q
   have:=(hp.rows b s z e).cell1 (i:=0) (Nat.two_pow_pos z);rw[Nat.zero_mul,g1] at this;cases this
   exact(g2 _).2 rfl
theorem Tb.two{w:World}{r p n b:Nat}{l:Nat→Nat}(h:Tb w r p l n){T:TypeId}{x y:Value}(hb:w.heap[b]? =some (.cells #[x,y] T (0,0)))(hx:∀z,x≠.int .i64 z∧x≠.int .u16 z)(u v:Value):Tb ((w.setCell ⟨b,0,none⟩ u).setCell ⟨b,1,none⟩ v) r p l n:=
 h.keptN (((Kept.refl (fun j=>j=b) w).setCell ⟨b,0,none⟩ (.inl rfl) u).setCell ⟨b,1,none⟩ (.inl rfl) v) (fun j e=>⟨x,by rw[e];exact(two_at hb).1,hx⟩)
set_option maxHeartbeats 1000000 in
theorem tablesOf_yes(A A2:Option Addr)(n c n2 c2:Nat)(l d:Nat→Nat)(W:World)(hl:∀i,l i≤255)(hd:∀i,d i≤255)(H1:Nums W .u8 A n (fun i=>(l i:Int)))(H2:Nums W .u8 A2 n2 (fun i=>(d i:Int)))(t1:Tbl l n)(t2:Tbl d n2):
 Calls Tryz.prog 129 #[.slice A n c,.slice A2 n2 c2] W (NewTs W l n d n2):=by
 have bw:Below W.heap.size W (W.alloc (.cells #[.pointer none,.pointer none] 105)):=(Below.refl _ W).alloc (Nat.le_refl _) _;have hnew:(W.alloc (.cells #[.pointer none,.pointer none] 105)).heap[W.heap.size]? =some (.cells #[.pointer none,.pointer none] 105 (0,0)):=heap_alloc_new _ _;obtain⟨w0,hw0⟩:∃w0,W.alloc (.cells #[.pointer none,.pointer none] 105)=w0:=⟨_,rfl⟩
 have hs0:w0.heap.size=W.heap.size+1:=by rw[←hw0];simp
 have HA:=tableOf_9 A n c l (W.alloc (.cells #[.pointer none,.pointer none] 105)) hl (H1.below bw) t1;have HB:=hid (fun(w':World) (hb:Below W.heap.size W w')=>tableOf_6 A2 n2 c2 d w' hd (H2.below hb) t2);rw[hw0] at HA bw hnew;unfold NewT at HA HB;have HA:=hid HA;have HN:=hid hnew;have HBw:=hid bw;clear H1 H2 hl hd hnew bw t1 t2;unfold NewTs;go_enter Tryz.func129,Tryz.ntmps129
 go_wp2_with (first
  |(go_at_call 164;(with_reducible refine HA.out.mono ?_);rintro e w1 ⟨p1,rfl,hp1,b1,q1⟩;have B1:=hid b1;have Q1:=hid q1;clear b1 q1)
  |(go_at_call 164;(with_reducible refine(HB.out _ (HBw.out.trans (B1.out.mono HBw.out.size))).mono ?_);rintro e w2 ⟨p2,rfl,hp2,b2,q2⟩;have f2:=(b2.block W.heap.size (by have:=B1.out.size;omega)).trans ((B1.out.block W.heap.size (by omega)).trans HN.out);have f20:=(two_at f2).1;have f21:=(two_at f2).2.1;have f22:=(two_at f2).2.2.1;have f23:=(two_at f2).2.2.2;have F2:=hid f2;have B2:=hid b2;have Q2:=hid q2;clear b2 q2 f2))
 refine bodyPost_ret (v:=.agg #[.pointer (some ⟨p1,0,none⟩),.pointer (some ⟨p2,0,none⟩)]) (results_cell_row rfl _ _ W.heap.size _ _ _ _ rfl (two_put F2.out _ _) Tryz.underlying105 rfl tabsSize) rfl ?_
 have hb2:Below W.heap.size W w2:=HBw.out.trans ((B1.out.mono HBw.out.size).trans (B2.out.mono (Nat.le_trans HBw.out.size B1.out.size)));refine⟨p1,p2,rfl,by omega,by have:=B1.out.size;omega,(hb2.setCell (p:=⟨W.heap.size,0,none⟩) (Nat.le_refl _) _).setCell (p:=⟨W.heap.size,1,none⟩) (Nat.le_refl _) _,fun r hr=>⟨?_,?_⟩⟩
 · exact((Q1.out r (by omega)).below B2.out).two F2.out (fun _=>⟨fun e=>(by cases e),fun e=>(by cases e)⟩) _ _
 · exact(Q2.out r (by have:=B1.out.size;omega)).two F2.out (fun _=>⟨fun e=>(by cases e),fun e=>(by cases e)⟩) _ _
set_option maxHeartbeats 1000000 in
theorem tablesOf_no(A A2:Option Addr)(n c n2 c2:Nat)(l d:Nat→Nat)(W:World)(hn:n≤maxLen)(hn2:n2≤maxLen)(hl:∀i,l i≤255)(hd:∀i,d i≤255)(H1:Nums W .u8 A n (fun i=>(l i:Int)))(H2:Nums W .u8 A2 n2 (fun i=>(d i:Int)))(ht:¬Tbl l n∨¬Tbl d n2):
 Calls Tryz.prog 129 #[.slice A n c,.slice A2 n2 c2] W (Fails W 162):=by
 have bw:Below W.heap.size W (W.alloc (.cells #[.pointer none,.pointer none] 105)):=(Below.refl _ W).alloc (Nat.le_refl _) _;obtain⟨w0,hw0⟩:∃w0,W.alloc (.cells #[.pointer none,.pointer none] 105)=w0:=⟨_,rfl⟩
 by_cases t1:Tbl l n
 · have t2:¬Tbl d n2:=ht.resolve_left (fun g=>g t1)
   have HA:=tableOf_9 A n c l (W.alloc (.cells #[.pointer none,.pointer none] 105)) hl (H1.below bw) t1;have HB:=hid (fun(w':World) (hb:Below W.heap.size W w')=>tableOf_6n A2 n2 c2 d w' hn2 hd (H2.below hb) t2);rw[hw0] at HA bw;unfold NewT at HA;unfold Fails at HB;have HA:=hid HA;have HBw:=hid bw;clear H1 H2 hl hd bw t1 t2 ht hn hn2;unfold Fails;go_enter Tryz.func129,Tryz.ntmps129
   go_wp2_with (first
    |(go_at_call 164;(with_reducible refine HA.out.mono ?_);rintro e w1 ⟨p1,rfl,hp1,b1,q1⟩;have B1:=hid b1;clear b1 q1)
    |(go_at_call 164;(with_reducible refine(HB.out _ (HBw.out.trans (B1.out.mono HBw.out.size))).mono ?_);rintro e w2 ⟨rfl,b2⟩;have B2:=hid b2;clear b2))
   exact⟨rfl,rfl,HBw.out.trans ((B1.out.mono HBw.out.size).trans (B2.out.mono (Nat.le_trans HBw.out.size B1.out.size)))⟩
 · have HA:=tableOf_9n A n c l (W.alloc (.cells #[.pointer none,.pointer none] 105)) hn hl (H1.below bw) t1
   rw[hw0] at HA bw;unfold Fails at HA;have HA:=hid HA;have HBw:=hid bw;clear H1 H2 hl hd bw t1 ht hn hn2;unfold Fails;go_enter Tryz.func129,Tryz.ntmps129;go_wp2_with (go_at_call 164;(with_reducible refine HA.out.mono ?_);rintro e w1 ⟨rfl,b1⟩;have B1:=hid b1;clear b1);exact⟨rfl,rfl,HBw.out.trans (B1.out.mono HBw.out.size)⟩
theorem In.other{w w':World}{B g q r D L b:Nat}{s:ByteArray}{x:St}(h:In w B g q r s D L x)(hk:Kept (fun j=>j=b) w w')(h1:b≠g)(h2:b≠q)(h3:b≠r)(hb:NoT w b):In w' B g q r s D L x:=by
 obtain⟨cp,v3,v4,e1,e2,e3⟩:=h.row;exact⟨h.gb,h.rb,h.qr,h.rd.keep hk (fun e=>h2 e.symm),⟨cp,v3,v4,(hk.block g h.glt (fun e=>h1 e.symm)).trans e1,e2.kept hk (fun e=>h3 e.symm),e3.kept e2.typ hk (fun j e=> .inr (by rw[e];exact hb))⟩,h.dl,h.ll⟩
def runR(l:Nat→Nat):Rm (Nat×Nat):=bnd (nxt l 19) fun y=>bnd (bits (rbm y)) fun e=>pur (y,e)
def RunV(p:Nat×Nat)(e:Ending)(_:World):Prop:=e=.returned (.agg #[.int .u8 (p.1:Nat),.int .u8 (p.2:Nat)])
theorem rbm_le(y:Nat):rbm y≤7:=by unfold rbm;split<;>(try split)<;>(try split)<;>omega
theorem rbm_eq{y:Nat}(h:y≤18):max (rbs y) 0=((rbm y:Nat):Int):=by
 have:∀y,y≤18→max (rbs y) 0=((rbm y:Nat):Int):=by decide
 exact this y h
theorem runSize:(Tryz.prog.info? 134).map (fun i=>i.size)=some 2:=by kernel_rfl
section
variable {w:World} {B g q r D L:Nat} {s:ByteArray} {x:St}
set_option maxHeartbeats 2000000 in
theorem run_c(h:In w B g q r s D L x)(hs:s.size≤100000)(ht:TB B w){p:Nat}{l:Nat→Nat}(tt:Tb w r p l 19):
 Calls Tryz.prog 166 #[.pointer (some ⟨g,0,none⟩),.pointer (some ⟨p,0,none⟩)] w (Out w B g q r s D L (runR l s D L x) RunV):=by
 obtain⟨R,hR⟩:∃R,runR l s D L x=R:=⟨_,rfl⟩
 rw[hR];unfold runR at hR;have hkA:Kept NoB w (w.alloc (.cells #[.int .u8 0,.int .u8 0] 134)):=(Kept.refl _ _).alloc _;have hnew:(w.alloc (.cells #[.int .u8 0,.int .u8 0] 134)).heap[w.heap.size]? =some (.cells #[.int .u8 0,.int .u8 0] 134 (0,0)):=heap_alloc_new _ _;have hsz:(w.alloc (.cells #[.int .u8 0,.int .u8 0] 134)).heap.size=w.heap.size+1:=by simp
 obtain⟨w0,hw0⟩:∃w0,w.alloc (.cells #[.int .u8 0,.int .u8 0] 134)=w0:=⟨_,rfl⟩
 rw[hw0] at hkA hnew hsz;obtain⟨b,hb⟩:∃b,w.heap.size=b:=⟨_,rfl⟩
 rw[hb] at hnew hsz;have i0:=h.same hkA;have t0:Tb w0 r p l 19:=tt.kept h.byt hkA (fun _ e=>e.elim);have hgb:g<b:=by have:=h.glt;omega
 have hqb:q<b:=by have:=h.rd.lt;omega
 have hrb:r<b:=by have:=h.rlt;omega
 have hxl:=h.rd.le;have htb0:TB B w0:=ht.go (h.bl (hkA.none _));have HN:=hid (next_c i0 hs t0);have HK:=hid hkA
 have HF:=hid (fun(W:World) (y:St) (o:Res w0 B g q r s D L y W)=>(show W.heap[b]? =some (.cells #[.int .u8 0,.int .u8 0] 134 (0,0)) from
  (o.kept.block b (by omega) (fun e=>by rcases e with e|e|e<;>omega)).trans hnew))
 have HTb:=hid (fun(W:World) (y:St) (o:Res w0 B g q r s D L y W)=>(show U.Tab W from(htb0.go (i0.bl o.kept)).here.1));have HE:=hid (fun(c:Nat) (W:World) (k:Kept (Ch g q r) w0 W)=>(show Kept (Ch g q r) w W from(hkA.none _).trans k (fun _ e=> .inl e)))
 have HEnd:=hid (fun(W:World) (y:St) (o:Res w0 B g q r s D L y W) (u v:Value)=>(show Res w B g q r s D L y ((W.setCell ⟨b,0,none⟩ u).setCell ⟨b,1,none⟩ v) from by
  have hWb:W.heap[b]? =some (.cells #[.int .u8 0,.int .u8 0] 134 (0,0)):=(o.kept.block b (by omega) (fun e=>by rcases e with e|e|e<;>omega)).trans hnew;obtain⟨k,r',hr',i⟩:=o;have k2:Kept (fun j=>j=b) W ((W.setCell ⟨b,0,none⟩ u).setCell ⟨b,1,none⟩ v):=((Kept.refl (fun j=>j=b) W).setCell ⟨b,0,none⟩ (.inl rfl) u).setCell ⟨b,1,none⟩ (.inl rfl) v;refine⟨((hkA.none _).trans k (fun _ e=> .inl e)).trans k2 (fun j e=> .inr (by omega)),r',?_,i.other k2 (by omega) (by omega) (by omega) ⟨_,(two_at hWb).1,fun z=>⟨fun e=>(by cases e),fun e=>(by cases e)⟩⟩⟩;rcases hr' with e|e
  · exact .inl e
  · exact .inr (by omega)))
 have HI0:=hid i0;have HTB0:=hid htb0;clear h tt ht hkA hnew i0 t0 htb0;cases hn:nxt l 19 s D L x with
 |error c=>
  rw[bnd_er hn] at hR;subst hR;rw[hn] at HN;clear hn;go_enter Tryz.func166,Tryz.ntmps166;go_wp2_with (go_at_call 134;(with_reducible refine HN.out.mono ?_);rintro e w1 ⟨rfl,k1⟩;have K1:=hid k1;clear k1);exact⟨rfl,rfl,HE.out c _ K1.out⟩
 |ok pp=>
  obtain⟨y,x1⟩:=pp;rw[hn] at HN;rw[bnd_of hn] at hR;have hy:y≤18:=by have:=(nxt_ok hn hxl).2.1;omega
  have hm7:=rbm_le y
  have hBs:∀W,U.Tab W→Calls Tryz.prog 203 #[.int .u8 y] W fun e w'=>e=.returned (.tuple #[.int .i64 (rbm y:Nat),.bool (decide (0≤rbs y))])∧W=w':=fun W hT=>by
   have:=U.bits_any y W hT (by omega);rw[rbm_eq hy] at this;exact this
  obtain⟨bb,hbb⟩:∃bb,decide (0≤rbs y)=bb:=⟨_,rfl⟩
  rw[hbb] at hBs;have HBs:=hid hBs;have HB:=hid (fun(W:World) (o:Res w0 B g q r s D L x1 W)=>(show Calls Tryz.prog 87 #[.pointer (some ⟨g,0,none⟩),.int .i64 (rbm y:Nat)] W (Out w0 B g q r s D L (bits (rbm y) s D L x1) Int64) from o.lift (fun r i=>bits_c i hs (rbm y) (by omega))));obtain⟨m,hm⟩:∃m,rbm y=m:=⟨_,rfl⟩
  rw[hm] at HB HBs hR hm7;clear hn hBs hbb;cases h2:bits m s D L x1 with
  |error c=>
   rw[bnd_er h2] at hR;subst hR;rw[h2] at HB;clear h2;go_enter Tryz.func166,Tryz.ntmps166
   go_wp2_with (first
    |(go_at_call 134;(with_reducible refine HN.out.mono ?_);rintro e w1 ⟨q1,q2⟩;unfold Int64 at q1;subst q1;have O1:=hid q2;clear q2)
    |(go_at_call 203;(with_reducible refine(HBs.out _ (HTb.out _ _ O1.out)).mono ?_);rintro e w2 ⟨rfl,rfl⟩)
    |(go_at_call 87;(with_reducible refine(HB.out _ O1.out).mono ?_);rintro e w3 ⟨rfl,k3⟩;have K3:=hid k3;clear k3))
   exact⟨rfl,rfl,HE.out c _ K3.out⟩
  |ok pp=>
   obtain⟨v,x2⟩:=pp;rw[bnd_of h2] at hR;rw[h2] at HB;have hv:=(bits_lt h2 128 (by have:2^m≤2^7:=Nat.pow_le_pow_right (by decide) hm7;omega)).1;have hR':R=.ok ((y,v),x2):=hR.symm;subst hR';clear h2 hR;go_enter Tryz.func166,Tryz.ntmps166
   go_wp2_with (first
    |(go_at_call 134;(with_reducible refine HN.out.mono ?_);rintro e w1 ⟨q1,q2⟩;unfold Int64 at q1;subst q1;have O1:=hid q2;clear q2)
    |(go_at_call 203;(with_reducible refine(HBs.out _ (HTb.out _ _ O1.out)).mono ?_);rintro e w2 ⟨rfl,rfl⟩)
    |(go_at_call 87;(with_reducible refine(HB.out _ O1.out).mono ?_);rintro e w3 ⟨q1,q2⟩;unfold Int64 at q1;subst q1;have f2:=HF.out _ _ q2;have f20:=(two_at f2).1;have f21:=(two_at f2).2.1;have f22:=(two_at f2).2.2.1;have f23:=(two_at f2).2.2.2;have F2:=hid f2;have O3:=hid q2;clear q2 f2))
   refine bodyPost_ret (v:=.agg #[.int .u8 (y:Nat),.int .u8 (v:Nat)]) (results_cell_row rfl _ _ b _ _ _ _ rfl (two_put F2.out _ _) Tryz.underlying134 rfl runSize) rfl ?_
   exact⟨rfl,HEnd.out _ _ O3.out _ _⟩
end
def ltR(k:Nat):Rm (Nat→Nat):=bnd (ownR k 0 fun _=>0) fun o=>if kind o 19≠2 then fl 162 else pur o
theorem Br.notT{w:World}{b n:Nat}{f:Nat→Nat}(h:Br w b n f)(hn:0<n):NoT w b:=⟨_,h.cell hn,fun z=>⟨fun e=>(by cases e),fun e=>(by cases e)⟩⟩
def TabP(w:World)(B g q r:Nat)(s:ByteArray)(D L:Nat)(p:(Nat→Nat)×St)(e:Ending)(w':World):Prop:=
 ∃t r',e=.returned (.pointer (some ⟨t,0,none⟩))∧Kept (Ch g q r) w w'∧(r'=r∨w.heap.size≤r')∧In w' B g q r' s D L p.2∧Tb w' r' t p.1 19
theorem od_at:∀j,j<19→V.ord[j]? =some (od.getD j 0)∧od.getD j 0<19:=by decide
def Oc(w:World)(b:Nat):Prop:=b<w.heap.size∧∀i,i<19→w.cell? ⟨b,i,none⟩=some (.int .u8 (od.getD i 0:Nat))
theorem Oc.of{w w':World}{b:Nat}(h:Oc w b)(hs:w.heap.size≤w'.heap.size)(e:w'.heap[b]? =w.heap[b]?):Oc w' b:=
 ⟨Nat.lt_of_lt_of_le h.1 hs,fun i hi=>(World.cell?_of_block (a:=⟨b,i,none⟩) e).trans (h.2 i hi)⟩
section
variable {w:World} {B g q r D L:Nat} {s:ByteArray} {x:St}
theorem bits_1(h:In w B g q r s D L x)(hs:s.size≤100000):Calls Tryz.prog 87 #[.pointer (some ⟨g,0,none⟩),.int .i64 1] w (Out w B g q r s D L (bits 1 s D L x) Int64):=bits_c h hs 1 (by omega)
theorem bits_2(h:In w B g q r s D L x)(hs:s.size≤100000):Calls Tryz.prog 87 #[.pointer (some ⟨g,0,none⟩),.int .i64 2] w (Out w B g q r s D L (bits 2 s D L x) Int64):=bits_c h hs 2 (by omega)
theorem bits_3(h:In w B g q r s D L x)(hs:s.size≤100000):Calls Tryz.prog 87 #[.pointer (some ⟨g,0,none⟩),.int .i64 3] w (Out w B g q r s D L (bits 3 s D L x) Int64):=bits_c h hs 3 (by omega)
theorem bits_4(h:In w B g q r s D L x)(hs:s.size≤100000):Calls Tryz.prog 87 #[.pointer (some ⟨g,0,none⟩),.int .i64 4] w (Out w B g q r s D L (bits 4 s D L x) Int64):=bits_c h hs 4 (by omega)
theorem bits_5(h:In w B g q r s D L x)(hs:s.size≤100000):Calls Tryz.prog 87 #[.pointer (some ⟨g,0,none⟩),.int .i64 5] w (Out w B g q r s D L (bits 5 s D L x) Int64):=bits_c h hs 5 (by omega)
set_option maxHeartbeats 4000000 in
theorem lensTable_c(h:In w B g q r s D L x)(hs:s.size≤100000)(k:Nat)(hk:k≤19):
 Calls Tryz.prog 133 #[.pointer (some ⟨g,0,none⟩),.int .i64 k] w fun e w'=>
  match ltR k s D L x with
  |.ok p=>TabP w B g q r s D L p e w'
  |.error c=>e=.panicked (flt c)∧Kept (Ch g q r) w w':=by
 obtain⟨R,hR⟩:∃R,ltR k s D L x=R:=⟨_,rfl⟩
 rw[hR];unfold ltR at hR;obtain⟨F,hF⟩:∃F,ownR k 0 (fun _=>0) s D L x=F:=⟨_,rfl⟩
 have hmk:=fun w=>madeByte w 19 (by omega)
 have hB0:=Br.made w 19;have hkA:Kept NoB w (w.alloc (.cells (madeCells #[.int .u8 0] (19*1)) 5)):=(Kept.refl _ _).alloc _;have hsz:(w.alloc (.cells (madeCells #[.int .u8 0] (19*1)) 5)).heap.size=w.heap.size+1:=by simp
 obtain⟨wA,hwA⟩:∃wA,w.alloc (.cells (madeCells #[.int .u8 0] (19*1)) 5)=wA:=⟨_,rfl⟩
 rw[hwA] at hB0 hkA hsz;have hmk0:=hmk w;rw[hwA] at hmk0;obtain⟨b,hb⟩:∃b,w.heap.size=b:=⟨_,rfl⟩
 rw[hb] at hB0 hsz hmk0;have hmk1:(Instr.makeSlice 23 (.int .i64 19) (.int .i64 19)).run Tryz.prog w=.ok (.slice (some ⟨b,0,none⟩) 19 19) wA:=hmk0;clear hmk0;have hO:=V.order_p wA;rw[hsz] at hO;have HO:=hid hO;have HB0:=hid hB0;have hgb:g<b:=by have:=h.glt;omega
 have hqb:q<b:=by have:=h.rd.lt;omega
 have hrb:r<b:=by have:=h.rlt;omega
 have HI:=hid h;have HK:=hid hkA;have HR:=hid hR;have HF:=hid hF;have HFx:=hid hF;clear h hB0 hkA hO hR hF hmk;have hk1:(k:Int)≤19:=by omega
 go_enter Tryz.func133,Tryz.ntmps133;go_wp2_with (go_at_call 169;(with_reducible refine HO.out.mono ?_);rintro e w1 ⟨rfl,o1,b1⟩;have O1:=hid o1;have B1:=hid b1;clear o1 b1)
 have hoc:Oc w1 (b+1):=by
  obtain⟨b',o',e1,e2,e3⟩:=O1.out.at (by decide);injection e1 with e1
  injection e1 with e1 e4
  subst e1;subst e4;exact⟨e2,fun i hi=>by have:=e3 i hi;rw[Nat.zero_add] at this;exact this⟩
 have hbr1:Br w1 b 19 (fun _=>0):=HB0.out.below B1.out (by omega);have hB9:Below wA.heap.size wA w1:=by rw[hsz];exact B1.out
 have hI1:In w1 B g q r s D L x:=(HI.out.same HK.out).below hB9;have HK1:=hid ((HK.out.trans (Kept.of_below hB9) (fun _ e=>e.elim)).none (Ch g q r));have hw1:w.heap.size≤w1.heap.size:=HK1.out.size;have HOc:=hid hoc;have HBr1:=hid hbr1;have HI0:=hid hI1;have hb1:=hoc.1;clear hoc hbr1 hI1 hB9 O1 B1 HB0 HO HI HK hmk1 hwA
 go_loopw [13] (fun i wr=> ∃ (j:Nat) (f:Nat→Nat) (x':St),j≤k∧i=.int .i64 j∧(∃r1,Kept (Ch g q r) w wr∧(r1=r∨w1.heap.size≤r1)∧w1.heap.size≤wr.heap.size∧In wr B g q r1 s D L x')∧Br wr b 19 f∧Oc wr (b+1)∧(∀t,f t≤7)∧ownR (k - j) j f s D L x'=F) (fun i _=>k - (intOf i).toNat)
 case atStart=>exact⟨0,_,x,Nat.zero_le _,rfl,⟨r,HK1.out,.inl rfl,Nat.le_refl _,HI0.out⟩,HBr1.out,HOc.out,fun _=>by omega,HF.out⟩
 case round=>
  obtain⟨j,f,x',hj,rfl,hS,hbr,hoc,hf7,hF⟩:=hrel;clear HF HI0 HBr1 HOc HK1;obtain⟨r1,kk,hr1,hwr,i1⟩:=hS;have hr1b:b≠r1∧b+1≠r1:=by rcases hr1 with e|e<;>omega
  have hrw:r1=r∨w.heap.size≤r1:=hr1.imp id (fun e=>by omega);have HRW:=hid hrw;have HKK:=hid kk;have HR1:=hid hr1;have HI1:=hid i1;have HBr:=hid hbr;have HOc:=hid hoc;have HF7:=hid hf7;by_cases hlt:j<k
  · have e:ownR (k - j) j f s D L x'=bnd (bits 3) (fun v=>ownR (k - (j+1)) (j+1) (fun t=>if t=od.getD j 0 then v else f t)) s D L x':=by
     rw[show k - j=(k - (j+1))+1 by omega];rfl
    rw[e] at hF;have hod:=(od_at j (by omega)).2;have hoc1:=hoc.2 j (by omega);have HN:=bits_3 i1 hs;obtain⟨t,ht⟩:∃t,od.getD j 0=t:=⟨_,rfl⟩
    rw[ht] at hF hod hoc1;clear e kk hr1 i1 hbr hoc hf7 ht;cases h3:bits 3 s D L x' with
    |error c=>
     rw[bnd_er h3] at hF;subst hF;have hR:R=.error c:=by rw[←HR.out];exact bnd_er HFx.out
     subst hR;rw[h3] at HN;have HN:=hid HN;clear h3;go_wp2_with (go_at_call 87;(with_reducible refine HN.out.mono ?_);rintro e w5 ⟨rfl,k5⟩;have K5:=hid k5;clear k5);exact⟨rfl,rfl,Kept.ch_trans HKK.out K5.out HRW.out⟩
    |ok pp=>
     obtain⟨v,x2⟩:=pp;rw[bnd_of h3] at hF;rw[h3] at HN;have hv:=(bits_lt h3 8 (by decide)).1;have HN:=hid HN;have HF2:=hid hF;clear h3 hF;go_wp2_with (go_at_call 87;(with_reducible refine HN.out.mono ?_);rintro e w5 ⟨q1,q2⟩;unfold Int64 at q1;subst q1;have hbr5:=HBr.out.at' (q2.kept.block b (by omega) (fun e=>by rcases e with e|e|e<;>omega));have c5:=hbr5.cell hod;have f5:=hbr5.frozen t;have O5:=hid q2;have HBr5:=hid hbr5;clear q2 hbr5);go_roundw
     case rel=>
      have hoc5:Oc w5 (b+1):=HOc.out.of O5.out.kept.size (O5.out.kept.block (b+1) (by omega) (fun e=>by rcases e with e|e|e<;>omega));have hk5:Kept (fun j=>j=b) w5 (w5.setCell ⟨b,t,none⟩ (.int .u8 (v:Nat))):=(Kept.refl (fun j=>j=b) w5).setCell ⟨b,t,none⟩ (.inl rfl) _;refine⟨j+1,_,x2,by omega,by go_num,?_,HBr5.out.set t v,hoc5.of hk5.size (hk5.block (b+1) hoc5.1 (by omega)),fun u=> ?_,HF2.out⟩
      · obtain⟨k5,r2,hr2,i2⟩:=O5.out
        have hs5:=k5.size
        have hr3:r2=r∨w1.heap.size≤r2:=by
         rcases hr2 with e|e
         · rcases HR1.out with e'|e'
           · exact .inl (e.trans e')
           · exact .inr (by omega)
         · exact .inr (by omega)
        exact⟨r2,(Kept.ch_trans HKK.out k5 HRW.out).trans hk5 (fun _ e=> .inr (by omega)),hr3,by rw[World.size_setCell];omega,i2.other hk5 (by omega) (by omega) (by rcases hr3 with e|e<;>omega) (Br.notT HBr5.out (by omega))⟩
      · split
        · omega
        · exact HF7.out u
     case measure=>simp[intOf];omega
  · obtain rfl:j=k:=by omega
    rw[Nat.sub_self] at hF;have hF':F=.ok (f,x'):=hF.symm;subst hF';have hn:=hbr.nums
    have hkr:R=if kind f 19≠2 then .error 162 else .ok (f,x'):=by
     rw[←HR.out,bnd_of HFx.out]
     split<;>rfl
    have HK2:=hid kk;have hKd:=kind_any (some ⟨b,0,none⟩) 19 19 f wr (by unfold maxLen;omega) (fun i=>by have:=hf7 i;omega) hn;have HKd:=hid (show Calls Tryz.prog 170 #[.slice (some ⟨b,0,none⟩) 19 19] wr fun e w'=>e=.returned (.int .u8 (kind f 19))∧Below wr.heap.size wr w' from hKd);obtain⟨z,hz⟩:∃z,kind f 19=z:=⟨_,rfl⟩
    rw[hz] at HKd hkr;have hz5:z≤5:=by rw[←hz];exact kind_le f 19
    by_cases h2:z=2
    · subst h2
      rw[if_neg (by decide)] at hkr;subst hkr;have hT:Tbl f 19:=.inr (.inr hz);have HT:=hid (fun(W:World) (hb:Below wr.heap.size wr W)=>tableOf_7 (some ⟨b,0,none⟩) 19 19 f W (fun i=>by have:=HF7.out i;omega) (hn.below hb) hT);unfold NewT at HT;have HKd':=hid (show Calls Tryz.prog 170 #[.slice (some ⟨b,0,none⟩) 19 19] wr fun e w'=>e=.returned (.int .u8 2)∧Below wr.heap.size wr w' from HKd.out);clear hF kk hr1 i1 hbr hoc hn hKd HKd hz hT hf7
      go_wp2_with (first
       |(go_at_call 170;(with_reducible refine HKd'.out.mono ?_);rintro e w5 ⟨rfl,b5⟩;have B5:=hid b5;clear b5)
       |(go_at_call 164;(with_reducible refine(HT.out _ B5.out).mono ?_);rintro e w6 ⟨p,rfl,hp,b6,t6⟩;have B6:=hid b6;have T6:=hid t6;clear b6 t6))
      go_ret;have i5:=HI1.out.below B5.out;have i6:=i5.below B6.out;refine⟨p,r1,rfl,?_,?_,i6,T6.out r1 i5.rlt⟩
      · exact(HK2.out.trans (Kept.of_below B5.out) (fun _ e=>e.elim)).trans (Kept.of_below B6.out) (fun _ e=>e.elim)
      · rcases HR1.out with e|e
        · exact .inl e
        · exact .inr (by omega)
    · rw[if_pos h2] at hkr
      subst hkr;have d0:((z:Int) !=2)=true:=by rw[bne_iff_ne];omega
      have d1:(z !=2)=true:=by rw[bne_iff_ne];exact h2
      clear hF kk hr1 i1 hbr hoc hn hKd hz hf7
      go_wp2_with (first
       |(go_at_call 170;(with_reducible refine HKd.out.mono ?_);rintro e w5 ⟨rfl,b5⟩;have B5:=hid b5;clear b5)
       |(go_at_call 92;(with_reducible refine(fail_162 _).mono ?_);rintro e w4 ⟨rfl,k4⟩;have K4:=hid k4;clear k4))
      exact⟨rfl,rfl,(HK2.out.trans (Kept.of_below B5.out) (fun _ e=>e.elim)).trans K4.out (fun _ e=>e.elim)⟩
end
end Go.Proofs.YtdpabanajgegjaaGreatDoor.I
