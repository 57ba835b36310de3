/- Texts of one place, one behind the other: BwQ, SpM. -/
import Derived.Test.YtdpabanajgegjaaGreatDoorEMBwK
import Derived.Test.YtdpabanajgegjaaGreatDoorEMBwX
import Derived.Test.YtdpabanajgegjaaGreatDoorEMRns
set_option linter.unusedVariables false
set_option linter.unusedSimpArgs false
namespace Go.Proofs.YtdpabanajgegjaaGreatDoor.V
open Go.Lib (hid)
open Go Go.RowKit M U
theorem writem_any{B P:Nat}{v:Value}{bs:List Nat}{w:World}(h:Bw B w P v bs)(k:Nat)(hk:k≤2)(A:Option Addr)(n c:Nat)(L:List Tk)(raw:ByteArray)(last:Bool)(hr:k=0→raw.size≤70000)(hT:∀w',Below B w w'→IsTks w' A n L)(hn:n≤10000)(hm:k≠0→∀t∈L,may t=true)(hl:bs.length≤9000000)(hB:B≤w.heap.size):
 Calls Tryz.prog 19 #[.pointer (some ⟨P,0,none⟩),.int .u8 k,.slice A n c,.string raw,.bool last] w fun e w'=>e=.returned (.tuple #[])∧∃v',Bw B w' P v' (bs++bkm k L raw last bs.length)∧Chg P v.ownBlock w v'.ownBlock w':=by
 match k,hk with
 |0,_=>exact write_stored h A n c L raw last (hr rfl) hl hB
 |1,_=>exact write_fixed h A n c L raw last hT hn (hm (by decide)) hl hB
 |2,_=>exact write_dynamic h A n c L raw last hT hn (hm (by decide)) hl hB
theorem Owb.zeros(w:World)(B r:Nat)(hB:B≤w.heap.size)(hr:r≤100):Owb B (w.alloc (.cells (madeCells #[.int .u8 0] r) 5)) (.slice (some ⟨w.heap.size,0,none⟩) r r) (List.replicate r 0):=by
 unfold Owb;refine⟨by simp[clb_length],.inr ⟨w.heap.size,r,_,by simp,hB,heap_alloc_new _ _,by simp,by unfold maxLen;omega,by rw[size_madeCells];omega,?_⟩⟩;rw[toList_madeCells_one,List.length_replicate,Nat.mul_one,List.take_of_length_le (by simp)];unfold clb;simp
theorem Bw.zeros(w:World)(r:Nat)(hr:r≤100):Bw w.heap.size ((w.alloc (.cells (madeCells #[.int .u8 0] r) 5)).alloc (.cells #[.slice (some ⟨w.heap.size,0,none⟩) r r] 41)) (w.heap.size+1) (.slice (some ⟨w.heap.size,0,none⟩) r r) (List.replicate r 0):=
 ⟨by have:=heap_alloc_new (w.alloc (.cells (madeCells #[.int .u8 0] r) 5)) (.cells #[.slice (some ⟨w.heap.size,0,none⟩) r r] 41);simpa using this,(Owb.zeros w _ r (Nat.le_refl _) hr).alloc _,by omega⟩
set_option maxRecDepth 1000000 in
theorem sizem_any(k:Nat)(hk:k≤2)(A:Option Addr)(n c:Nat)(L:List Tk)(raw:ByteArray)(p:Nat)(w:World)(hr:k=0→raw.size≤70000)(hT:∀w',Below w.heap.size w w'→IsTks w' A n L)(hn:n≤10000)(hm:k≠0→∀t∈L,may t=true)(hlen:(bkm k L raw false (p%8)).length≤9000000):
 Calls Tryz.prog 70 #[.int .u8 k,.slice A n c,.string raw,.int .i64 p] w fun e w'=>e=.returned (.int .i64 ((bkm k L raw false (p%8)).length:Nat))∧Below w.heap.size w w':=by
 obtain⟨r,hr8⟩:∃r,p%8=r:=⟨_,rfl⟩
 have hr7:r<8:=by omega
 have e1:(p:Int)%8=(r:Int):=by omega
 rw[hr8] at hlen ⊢;have hmk:=made_any w r (by omega);have hz:=Bw.zeros w r (by omega);have hbel:Below w.heap.size w ((w.alloc (.cells (madeCells #[.int .u8 0] r) 5)).alloc (.cells #[.slice (some ⟨w.heap.size,0,none⟩) r r] 41)):=((Below.refl _ _).alloc (Nat.le_refl _) _).alloc (by simp) _;have hw:=writem_any hz k hk A n c L raw false hr (fun w' hb=>hT w' (hbel.trans hb)) hn hm (by simp;omega) (by simp;omega);rw[List.length_replicate] at hw;obtain⟨q,hq⟩:∃q,(bkm k L raw false r).length=q:=⟨_,rfl⟩
 have hlq:(List.replicate r 0++bkm k L raw false r).length=r+q:=by rw[List.length_append,List.length_replicate,hq]
 obtain⟨bs,hbs⟩:∃bs,List.replicate r 0++bkm k L raw false r=bs:=⟨_,rfl⟩
 rw[hbs] at hw hlq;rw[hq] at hlen ⊢;have HW:=hid hw;have HLQ:=hid hlq;have HBL:=hid hbel;have HZ:=hid hz;clear hw hlq hbel hz hbs hq hT hm hr hr8;go_enter Tryz.func70,Tryz.ntmps70;go_wp2_with (go_at_call 19;(with_reducible refine HW.out.mono ?_);rintro e w1 ⟨rfl,v1,h1,c1⟩;obtain⟨A1,c2,hv⟩:=Owb.form h1.ow;rw[HLQ.out] at hv;have k0:=h1.at0;rw[hv] at k0;have B1:=hid (HBL.out.trans (HZ.out.base c1 (by simp;omega)));clear h1 c1 hv);go_ret;exact⟨by simp;omega,B1.out⟩
theorem stm_len:∀ (f:Nat) (o:Nat) (s:ByteArray) (last:Bool),s.size≤65535*(f+1)→(stm o s last).length≤8*s.size+42*(f+1)
 |f,o,s,last,h=>by
  have hp:∀n,pd n≤7:=fun n=>by unfold pd;omega
  by_cases h1:s.size≤65535
  · rw[stm_one h1,stb_length]
    have:=hp (o+3);omega
  · have h2:(s.extract 0 65535).size=65535:=by rw[ByteArray.size_extract];omega
    have h3:(s.extract 65535 s.size).size=s.size - 65535:=by rw[ByteArray.size_extract];omega
    have:=hp (o+3);rw[stm_more h1,List.length_append];have hl:(stb o (s.extract 0 65535) false).length=3+pd (o+3)+32+65535*8:=by rw[stb_length,h2]
    match f with
    |0=>omega
    |f+1=>
     have ih:=stm_len f (o+(stb o (s.extract 0 65535) false).length) (s.extract 65535 s.size) last (by omega);rw[h3] at ih;omega
theorem blk_len(k:Nat)(L:List Tk)(raw:ByteArray)(last:Bool)(o:Nat)(hr:k=0→raw.size≤70000)(hn:L.length≤10000)(hm:k≠0→∀t∈L,may t=true):(blk k L raw last o).length≤6000000:=by
 have hs:=sys_len L;unfold blk;by_cases h0:k=0
 · rw[if_pos h0,stb_length]
   have h1:=hr h0;have:pd (o+3)≤7:=by unfold pd;omega
   omega
 · rw[if_neg h0]
   have hb:∀y∈sys L,y.b≤13:=fun y hy=>(sys_b (hm h0) y hy).1
   split
   · unfold sfx
     rw[List.length_append,hdb_length];have:=wss_len fxl 288 (fun _=>5) 30 fxl_fine.byte (fun _=>by show 5≤255;decide) (sys L) hb;omega
   · unfold sbs
     rw[List.length_append,List.length_append,hdb_length];have h1:=hdd_len L;have:=wss_len (ll1 L) 286 (ll2 L) 30 (fun i=>Nat.le_trans (hfl_le _ (by decide) (by decide) i) (by decide)) (fun i=>Nat.le_trans (hfl_le _ (by decide) (by decide) i) (by decide)) (sys L) hb;omega
theorem bkm_len(k:Nat)(L:List Tk)(raw:ByteArray)(last:Bool)(o:Nat)(hr:k=0→raw.size≤70000)(hn:L.length≤10000)(hm:k≠0→∀t∈L,may t=true):(bkm k L raw last o).length≤6000000:=by
 unfold bkm
 split
 · rename_i e
   have:=stm_len 1 o raw last (by have:=hr e;omega);have:=hr e;omega
 · exact blk_len k L raw last o hr hn hm
end Go.Proofs.YtdpabanajgegjaaGreatDoor.V
namespace Go.Proofs.YtdpabanajgegjaaGreatDoor.V
open Go Go.RowKit M U
noncomputable def b3(L:List Tk)(s:ByteArray)(k:Nat):Nat:=(bkm k L s false 0).length
noncomputable def kd(L:List Tk)(s:ByteArray):Nat×Nat:=
 if b3 L s 1<b3 L s 0 then(if b3 L s 2<b3 L s 1 then(2,b3 L s 2) else(1,b3 L s 1)) else(if b3 L s 2<b3 L s 0 then(2,b3 L s 2) else(0,b3 L s 0))
theorem kd_kind(L:List Tk)(s:ByteArray):(kd L s).1≤2:=by
 unfold kd
 split<;>split<;>simp
theorem kd_bits(L:List Tk)(s:ByteArray):(kd L s).2=b3 L s (kd L s).1:=by
 unfold kd
 split<;>split<;>rfl
theorem kd_least(L:List Tk)(s:ByteArray){k:Nat}(h:k≤2):(kd L s).2≤b3 L s k:=by
 have hc:k=0∨k=1∨k=2:=by omega
 unfold kd
 split<;>split<;>(rcases hc with rfl|rfl|rfl<;>(simp only;omega))
theorem b3_le{L:List Tk}{s:ByteArray}{k:Nat}(hs:s.size≤70000)(hn:L.length≤10000)(hm:∀t∈L,may t=true):b3 L s k≤6000000:=bkm_len k L s false 0 (fun _=>hs) hn (fun _=>hm)
theorem kd_le{L:List Tk}{s:ByteArray}(hs:s.size≤70000)(hn:L.length≤10000)(hm:∀t∈L,may t=true):(kd L s).2≤6000000:=by rw[kd_bits];exact b3_le hs hn hm
def seg(L:List Tk)(f t:Nat):List Tk:=(L.drop f).take (t - f)
theorem seg_length{L:List Tk}{f t:Nat}(h:t≤L.length):(seg L f t).length=t - f:=by
 unfold seg;rw[List.length_take,List.length_drop];omega
theorem seg_mem{L:List Tk}{f t:Nat}{x:Tk}(h:x∈seg L f t):x∈L:=List.mem_of_mem_drop (List.mem_of_mem_take h)
theorem take_seg(L:List Tk){f t:Nat}(h:f≤t):L.take t=L.take f++seg L f t:=by
 unfold seg
 conv=>lhs;rw[show t=f+(t - f) by omega,List.take_add]
def szt(L:List Tk)(i:Nat):Nat:=Tx.szs (L.take i)
theorem szt_zero(L:List Tk):szt L 0=0:=rfl
theorem szs_seg(L:List Tk){f t:Nat}(h:f≤t):szt L f+Tx.szs (seg L f t)=szt L t:=by
 unfold szt;rw[take_seg L h,Tx.szs_append]
theorem szt_mono(L:List Tk){f t:Nat}(h:f≤t):szt L f≤szt L t:=by
 have:=szs_seg L h;omega
theorem szt_all{L:List Tk}{n:Nat}(h:L.length≤n):szt L n=Tx.szs L:=by
 unfold szt;rw[List.take_of_length_le h]
noncomputable def kp(L:List Tk)(s:ByteArray)(f t:Nat):Nat×Nat:=kd (seg L f t) (s.extract (szt L f) (szt L t))
def pst(K:Nat→Nat→Nat×Nat)(c:Nat→Nat):Nat→List (Nat×Nat)×(Nat×Nat)
 |0=>([],(c 0,c 1))
 |k+1=>if(K (pst K c k).2.1 (c (k+2))).2≤(K (pst K c k).2.1 (c (k+1))).2+(K (c (k+1)) (c (k+2))).2 then((pst K c k).1,((pst K c k).2.1,c (k+2))) else((pst K c k).1++[(pst K c k).2],(c (k+1),c (k+2)))
def prt(K:Nat→Nat→Nat×Nat)(c:Nat→Nat)(k:Nat):List (Nat×Nat):=(pst K c k).1++[(pst K c k).2]
theorem pst_to(K:Nat→Nat→Nat×Nat)(c:Nat→Nat):∀k,(pst K c k).2.2=c (k+1)
 |0=>rfl
 |k+1=>by rw[pst];split<;>rfl
theorem prt_length(K:Nat→Nat→Nat×Nat)(c:Nat→Nat):∀k,(prt K c k).length≤k+1
 |0=>by simp[prt,pst]
 |k+1=>by
  have ih:=prt_length K c k;unfold prt at ih ⊢;rw[List.length_append] at ih;rw[pst]
  split<;>(simp only[List.length_append,List.length_cons,List.length_nil] at ih ⊢;omega)
def Chn:Nat→List (Nat×Nat)→Nat→Prop
 |a,[],b=>a=b
 |a,q::l,b=>q.1=a∧a≤q.2∧Chn q.2 l b
theorem Chn.append:∀ {l:List (Nat×Nat)} {r:List (Nat×Nat)} {a b d:Nat},Chn a l b→Chn b r d→Chn a (l++r) d
 |[],_,_,_,_,h,h2=>by cases h;exact h2
 |q::l,_,_,_,_,h,h2=>⟨h.1,h.2.1,Chn.append h.2.2 h2⟩
theorem Chn.le:∀ {l:List (Nat×Nat)} {a b:Nat},Chn a l b→a≤b
 |[],_,_,h=>Nat.le_of_eq h
 |q::l,_,_,h=>Nat.le_trans h.2.1 (Chn.le h.2.2)
def pbits(K:Nat→Nat→Nat×Nat):List (Nat×Nat)→Nat
 |[]=>0
 |q::l=>(K q.1 q.2).2+pbits K l
theorem pbits_append(K:Nat→Nat→Nat×Nat):∀l r,pbits K (l++r)=pbits K l+pbits K r
 |[],r=>by simp[pbits]
 |q::l,r=>by simp only[List.cons_append,pbits,pbits_append K l r];omega
def cbits(K:Nat→Nat→Nat×Nat)(c:Nat→Nat):Nat→Nat
 |0=>0
 |k+1=>cbits K c k+(K (c k) (c (k+1))).2
theorem pst_chn(K:Nat→Nat→Nat×Nat)(c:Nat→Nat)(hc:∀i,c i≤c (i+1)):∀k,Chn (c 0) (pst K c k).1 (pst K c k).2.1∧(pst K c k).2.1≤c k
 |0=>⟨rfl,Nat.le_refl _⟩
 |k+1=>by
  obtain⟨h1,h2⟩:=pst_chn K c hc k;rw[pst]
  split
  · exact⟨h1,Nat.le_trans h2 (hc k)⟩
  · refine⟨Chn.append h1 ⟨rfl,?_,?_⟩,Nat.le_refl _⟩
    · rw[pst_to];exact Nat.le_trans h2 (hc k)
    · exact pst_to K c k
theorem prt_chn(K:Nat→Nat→Nat×Nat)(c:Nat→Nat)(hc:∀i,c i≤c (i+1))(k:Nat):Chn (c 0) (prt K c k) (c (k+1)):=by
 obtain⟨h1,h2⟩:=pst_chn K c hc k;refine Chn.append h1 ⟨rfl,?_,pst_to K c k⟩;rw[pst_to];exact Nat.le_trans h2 (hc k)
theorem prt_bits(K:Nat→Nat→Nat×Nat)(c:Nat→Nat):∀k,pbits K (prt K c k)≤cbits K c (k+1)
 |0=>by simp[prt,pst,pbits,cbits]
 |k+1=>by
  have ih:=prt_bits K c k;have ht:=pst_to K c k;unfold prt at ih ⊢;rw[pbits_append] at ih;rw[cbits];have e:pbits K [(pst K c k).2]=(K (pst K c k).2.1 (c (k+1))).2:=by rw[←ht];simp[pbits]
  rw[e] at ih;rw[pst]
  split
  · rename_i h
    rw[pbits_append];show pbits K (pst K c k).1+((K (pst K c k).2.1 (c (k+2))).2+0)≤cbits K c (k+1)+(K (c (k+1)) (c (k+2))).2
    omega
  · rw[pbits_append,pbits_append,e]
    show pbits K (pst K c k).1+(K (pst K c k).2.1 (c (k+1))).2+((K (c (k+1)) (c (k+2))).2+0)≤cbits K c (k+1)+(K (c (k+1)) (c (k+2))).2
    omega
def cut(n i:Nat):Nat:=min (1024*i) n
theorem cut_mono(n i:Nat):cut n i≤cut n (i+1):=by unfold cut;omega
theorem cut_zero(n:Nat):cut n 0=0:=by unfold cut;omega
def cnk(n:Nat):Nat:=(n - 1) /1024
theorem cut_end(n:Nat):cut n (cnk n+1)=n:=by unfold cut cnk;omega
theorem cut_some{n i:Nat}(h:i≤cnk n)(hn:0<n):cut n i<n∧cut n i=1024*i:=by unfold cut;unfold cnk at h;omega
noncomputable def pts(L:List Tk)(s:ByteArray):List (Nat×Nat):=prt (kp L s) (cut L.length) (cnk L.length)
theorem pts_chn(L:List Tk)(s:ByteArray):Chn 0 (pts L s) L.length:=by
 have h:=prt_chn (kp L s) (cut L.length) (cut_mono L.length) (cnk L.length);rw[cut_zero,cut_end] at h;exact h
theorem pts_bits(L:List Tk)(s:ByteArray):pbits (kp L s) (pts L s)≤cbits (kp L s) (cut L.length) (cnk L.length+1):=prt_bits _ _ _
theorem pts_few(L:List Tk)(s:ByteArray)(h:L.length≤1024):pts L s=[(0,L.length)]:=by
 have e:cnk L.length=0:=by unfold cnk;omega
 unfold pts;rw[e];simp only[prt,pst,List.nil_append,cut_zero];rw[show cut L.length 1=L.length by unfold cut;omega]
end Go.Proofs.YtdpabanajgegjaaGreatDoor.V
