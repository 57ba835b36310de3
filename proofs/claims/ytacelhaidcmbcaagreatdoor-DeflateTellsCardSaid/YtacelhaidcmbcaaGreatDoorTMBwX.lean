/- Texts of one place, one behind the other: BwX, BwZ, BwQ, SpM. -/
import Derived.Test.YtacelhaidcmbcaaGreatDoorTMRns
import Derived.Lib.ConvBytes
import Derived.StillTailTactics
import Derived.Deep.CutRange
import Derived.BigRegion
import Derived.Test.YtacelhaidcmbcaaGreatDoorTMBwG
set_option maxHeartbeats 8000000
set_option maxRecDepth 1000000
set_option linter.unusedVariables false
set_option linter.unusedSimpArgs false
namespace Go.Proofs.YtacelhaidcmbcaaGreatDoor.V
open Go.Lib (hid)
open Go Go.RowKit M U
def nb:List Nat→Nat
 |[]=>0
 |b::l=>b+2*nb l
theorem z0E:∀l r:List Nat,nb (l++r)=nb l+nb r*2^l.length
 |[],r=>by simp[nb]
 |b::l,r=>by
  simp only[List.cons_append,nb,z0E l r,qC,Nat.pow_succ];rw[Nat.mul_add,←Nat.mul_assoc,Nat.mul_comm 2 (nb r),Nat.mul_assoc,Nat.mul_comm 2 (2^l.length)];omega
theorem zhX:∀l:List Nat,(∀x∈l,x≤1)→nb l<2^l.length
 |[],_=>by simp[nb]
 |b::l,h=>by
  have h1:=h b List.mem_cons_self;have h2:=zhX l (fun x hx=>h x (List.mem_cons_of_mem _ hx));simp only[nb,qC,Nat.pow_succ];omega
theorem zgp(l:List Nat)(j:Nat)(hj:j<l.length):nb (l.take (j+1))=nb (l.take j)+l.getD j 0*2^j:=by
 rw[List.take_add_one,qE hj,z0E,List.length_take,Nat.min_eq_left (by omega),List.getD,qE hj];simp[nb]
def byn(V i:Nat):Nat:=V/256^i%256
theorem zio(V i:Nat):byn V i<256:=Nat.mod_lt _ (by decide)
theorem p8(i:Nat):(256:Nat)^i=2^(8*i):=by rw[Nat.pow_mul]
theorem zed{V b j:Nat}(hV:V<2^j)(hb:b≤1)(i:Nat):byn (V+b*2^j) i=if i=j/8 then byn V i+b*2^(j%8) else byn V i:=by
 have hs:∀i,8*i≤j→(V+b*2^j) /256^i=V/256^i+b*2^(j - 8*i):=fun i hi=>by
  have e:2^j=256^i*2^(j - 8*i):=by rw[p8,←Nat.pow_add];congr 1;omega
  rw[e,Nat.mul_comm b,Nat.mul_assoc,Nat.add_mul_div_left _ _ (Nat.pow_pos (by decide)),Nat.mul_comm _ b]
 unfold byn;by_cases q:i=j/8
 · rw[if_pos q,hs i (by omega)]
   have e2:j - 8*i=j%8:=by omega
   rw[e2]
   have hlt:V/256^i<2^(j%8):=by
    rw[Nat.div_lt_iff_lt_mul (Nat.pow_pos (by decide)),p8,←Nat.pow_add];exact Nat.lt_of_lt_of_eq hV (by congr 1;omega)
   have h8:2^(j%8)≤128:=qK (Nat.pow_le_pow_right (by decide) (show j%8≤7 by omega)) (by decide)
   have hb2:b*2^(j%8)≤2^(j%8):=by
    rcases Nat.le_one_iff_eq_zero_or_eq_one.1 hb with rfl|rfl<;>simp
   obtain⟨x,hx⟩:∃x,V/256^i=x:=⟨_,rfl⟩
   obtain⟨y,hy⟩:∃y,b*2^(j%8)=y:=⟨_,rfl⟩
   obtain⟨z,hz⟩:∃z,2^(j%8)=z:=⟨_,rfl⟩
   rw[hx,hy];rw[hx,hz] at hlt;rw[hz] at h8;rw[hy,hz] at hb2;clear hx hy hz e2 hs hV q hb;omega
 · rw[if_neg q]
   by_cases r:8*i≤j
   · rw[hs i r]
     have e3:2^(j - 8*i)=256*2^(j - 8*i - 8):=by rw[show(256:Nat)=2^8 from rfl,←Nat.pow_add];congr 1;omega
     rw[e3,Nat.mul_left_comm,Nat.add_mul_mod_self_left]
   · have hp:2^(j+1)≤256^i:=by rw[p8];exact Nat.pow_le_pow_right (by decide) (by omega)
     have hb2:b*2^j≤2^j:=by
      rcases Nat.le_one_iff_eq_zero_or_eq_one.1 hb with rfl|rfl<;>simp
     rw[Nat.pow_succ] at hp;rw[Nat.div_eq_of_lt (by omega),Nat.div_eq_of_lt (by omega)]
theorem zgU{V j:Nat}(hV:V<2^j):byn V (j/8)<2^(j%8):=by
 unfold byn;refine Nat.lt_of_le_of_lt (Nat.mod_le _ _) ?_
 rw[Nat.div_lt_iff_lt_mul (Nat.pow_pos (by decide)),p8,←Nat.pow_add];exact Nat.lt_of_lt_of_eq hV (by congr 1;omega)
theorem zgl{x b k:Nat}(hx:x<2^k)(hk:k≤7)(hb:b≤1):bits .or .u8 (x:Int) ((b*2^k:Nat):Int)=((x+b*2^k:Nat):Int):=by
 have h8:2^k≤128:=qK (Nat.pow_le_pow_right (by decide) hk) (by decide)
 have hb2:b*2^k≤2^k:=by
  rcases Nat.le_one_iff_eq_zero_or_eq_one.1 hb with rfl|rfl<;>simp
 have e:x|||b*2^k=x+b*2^k:=by
  rw[Nat.or_comm,Nat.mul_comm b,←Nat.two_pow_add_eq_or_of_lt hx,Nat.add_comm]
 have key:∀x y:Nat,x<256→y<256→bits .or .u8 (x:Int) (y:Int)=((x|||y:Nat):Int):=by
  intro x y h1 h2;have h3:x|||y<2^8:=Nat.or_lt_two_pow h1 h2
  have g1:(BitVec.ofInt 8 (x:Int)).toNat=x:=by
   rw[BitVec.ofInt_natCast,BitVec.toNat_ofNat];exact Nat.mod_eq_of_lt (by omega)
  have g2:(BitVec.ofInt 8 (y:Int)).toNat=y:=by
   rw[BitVec.ofInt_natCast,BitVec.toNat_ofNat];exact Nat.mod_eq_of_lt (by omega)
  show IntKind.u8.wrap ((BitVec.ofInt 8 (x:Int)|||BitVec.ofInt 8 (y:Int)).toNat:Int)=_
  rw[BitVec.toNat_or,g1,g2,IntKind.wrap_u8];omega
 rw[key _ _ (by omega) (by omega),e]
theorem z7Z(w:World)(n:Nat)(hn:n≤40000):(Instr.makeSlice 40 (.int .i64 (n:Int)) (.int .i64 (n:Int))).run Tryz.prog w=.ok (.slice (some ⟨w.heap.size,0,none⟩) n n) (w.alloc (.cells (madeCells #[.int .u8 0] n) 5)):=by
 obtain⟨i,h1,h2,h3,h4⟩:=info_of byteInfo;exact run_make_row 40 5 i _ Tryz.underlying40 h1 h2 h3 rfl .i64 .i64 n (by rw[h4];omega) (by omega) w
theorem ze3{w:World}{b n cp:Nat}{f:Nat→Nat}(h:w.rowIs b 5 n (fun j=> .int .u8 (f j:Nat)))(hf:∀j,j<n→f j<256):
 (convert 40 9 (.slice (some ⟨b,0,none⟩) n cp)).run Tryz.prog w=.ok (.string ⟨((List.range n).map fun j=>UInt8.ofNat (f j)).toArray⟩) w:=by
 have hl:((List.range n).map fun j=>UInt8.ofNat (f j)).length=n:=by rw[List.length_map,List.length_range]
 have:=run_convert_bytes_back (P:= Tryz.prog) w 40 9 5 ⟨b,0,none⟩ cp ((List.range n).map fun j=>UInt8.ofNat (f j)) Tryz.underlying40 Tryz.underlying5 Tryz.underlying9 (fun i hi=>by
  rw[hl] at hi
  have ha:(⟨b,0,none⟩:Addr).add i=⟨b,i,none⟩:=by
   unfold Addr.add
   split
   · rename_i g;subst g;rfl
   · simp
  rw[ha,h.cell hi,List.getElem_map,List.getElem_range,UInt8.toNat_ofNat',Nat.mod_eq_of_lt (hf i hi)])
 rw[hl] at this;exact this
theorem text_any{B P:Nat}{v:Value}{bs:List Nat}{w:World}(h:Bw B w P v bs)(hbit:∀x∈bs,x≤1)(hl:bs.length≤300000)(hB:B≤w.heap.size):
 Calls Tryz.prog 15 #[.pointer (some ⟨P,0,none⟩)] w fun e w'=>e=.returned (.string ⟨((List.range ((bs.length+7) /8)).map fun i=>UInt8.ofNat (byn (nb bs) i)).toArray⟩)∧Below w.heap.size w w':=by
 obtain⟨q,hq⟩:∃q,bs.length=q:=⟨_,rfl⟩
 rw[hq] at hl;obtain⟨N,hN⟩:∃N,(q+7) /8=N:=⟨_,rfl⟩
 have e1:((q:Int)+7) /8=(N:Int):=by omega
 have hN2:N≤40000:=by omega
 have hmk:=z7Z w N hN2;obtain⟨A,c,hv⟩:=Owb.form h.ow;rw[hq] at hv;subst hv;have c0:=h.at0;have hPlt:=h.lt;have HB:=hid h;rw[hq,hN];have hr0:(w.alloc (.cells (madeCells #[.int .u8 0] N) 5)).rowIs w.heap.size 5 N (fun i=> .int .u8 (byn (nb (bs.take 0)) i:Nat)):=(World.rowIs_made w (.int .u8 0) N 5).congr (fun j _=>by unfold byn nb;simp);have HR:=hid hr0;have HBIT:=hid hbit;clear h hbit hr0;go_enter Tryz.func15,Tryz.ntmps15;go_wp2_with fail;clear hmk
 go_loopw [4] (fun x wr=> ∃j:Nat,j≤q∧x=.int .i64 j∧wr.rowIs w.heap.size 5 N (fun i=> .int .u8 (byn (nb (bs.take j)) i:Nat))∧Below w.heap.size w wr) (fun x _=>q - (intOf x).toNat)
 case atStart=>exact⟨0,qZ,rfl,HR.out,qL⟩
 case round=>
  obtain⟨j,hj,rfl,hr,hbw⟩:=hrel;have cr:=(hbw.cell (p:=⟨P,0,none⟩) hPlt).trans c0;by_cases hlt:j<q
  · have hbits:=HBIT.out
    obtain⟨A',c',hv',hys⟩:=Owb.bys HB.out.ow (fun x hx=>qK (hbits x hx) (by decide)) (by rw[hq];unfold maxLen;omega);rw[hq] at hv' hys;injection hv' with e3 _ e4
    subst e3;obtain⟨b,o,rfl,hbl,hcs⟩:=hys.at (by omega);have c1:=(hbw.cell (p:=⟨b,o+j,none⟩) hbl).trans (hcs j hlt)
    have hx1:bs.getD j 0≤1:=by
     rw[List.getD,qE (by omega)];exact hbits _ (List.getElem_mem _)
    obtain⟨x,hx⟩:∃x,bs.getD j 0=x:=⟨_,rfl⟩
    obtain⟨i,hi⟩:∃i,j/8=i:=⟨_,rfl⟩
    obtain⟨k,hk⟩:∃k,j%8=k:=⟨_,rfl⟩
    have hiN:i<N:=by omega
    have hk8:k<8:=by omega
    have hi1:(j:Int) /8=(i:Int):=by omega
    have hk1:(j:Int)%8=(k:Int):=by omega
    have hV:=zhX (bs.take j) (fun y hy=>hbits y (List.mem_of_mem_take hy));rw[List.length_take,Nat.min_eq_left (by omega)] at hV;have hlow:=zgU hV;rw[hi,hk] at hlow;rw[hx] at c1 hx1;have hnt:=zgp bs j (by omega);rw[hx] at hnt;have hmore:=zed hV hx1;rw[←hnt,hi,hk] at hmore;have c2:wr.cell? ⟨w.heap.size,i,none⟩=some (.int .u8 (byn (nb (bs.take j)) i:Nat)):=hr.cell hiN;have hfz:=hr.frozen i;obtain⟨y,hy⟩:∃y,byn (nb (bs.take j)) i=y:=⟨_,rfl⟩
    rw[hy] at c2 hlow;have hor:=zgl hlow (by omega) hx1
    have hset:(wr.setCell ⟨w.heap.size,i,none⟩ (.int .u8 (y+x*2^k:Nat))).rowIs w.heap.size 5 N (fun i=> .int .u8 (byn (nb (bs.take (j+1))) i:Nat)):=(hr.set i (.int .u8 (y+x*2^k:Nat))).congr (fun i' hi'=>by
     rw[hmore i'];by_cases q:i'=i
     · rw[if_pos q,if_pos q,q,hy]
     · rw[if_neg q,if_neg q])
    have w1:IntKind.i64.wrap ((j:Int) /8)=(i:Int):=by rw[hi1,IntKind.wrap_i64];omega
    have w2:IntKind.i64.wrap (Int.tdiv (j:Int) 8)=(i:Int):=by rw[Int.tdiv_eq_ediv_of_nonneg (by omega)];exact w1
    have w3:IntKind.i64.wrap ((j:Int)%8)=(k:Int):=by rw[hk1,IntKind.wrap_i64];omega
    have w4:IntKind.i64.wrap (Int.tmod (j:Int) 8)=(k:Int):=by rw[Int.tmod_eq_emod_of_nonneg (by omega)];exact w3
    have w9:IntKind.i64.wrap (i:Int)=(i:Int):=by rw[IntKind.wrap_i64];omega
    have w10:IntKind.i64.wrap (k:Int)=(k:Int):=by rw[IntKind.wrap_i64];omega
    have w11:IntKind.u64.wrap (k:Int)=(k:Int):=by rw[IntKind.wrap_u64];omega
    have w12:Int.tdiv (j:Int) 8=(i:Int):=by rw[Int.tdiv_eq_ediv_of_nonneg (by omega)];exact hi1
    have w13:Int.tmod (j:Int) 8=(k:Int):=by rw[Int.tmod_eq_emod_of_nonneg (by omega)];exact hk1
    have w5:(0:Int)≤(i:Int):=by omega
    have w6:(i:Int)<(N:Int):=by omega
    have w7:(0:Int)≤(j:Int):=by omega
    have w8:(j:Int)<(q:Int):=by omega
    have hv2:(x:Int)*2^k%256=((x*2^k:Nat):Int):=by
     have g1:((2:Int)^k)=((2^k:Nat):Int):=by rw[Int.natCast_pow];rfl
     have g2:2^k≤128:=qK (Nat.pow_le_pow_right (by decide) (show k≤7 by omega)) (by decide)
     have g3:x*2^k≤128:=by
      rcases Nat.le_one_iff_eq_zero_or_eq_one.1 hx1 with rfl|rfl
      · rw[Nat.zero_mul];decide
      · rw[Nat.one_mul];exact g2
     rw[g1,←Int.natCast_mul];obtain⟨z,hz⟩:∃z,x*2^k=z:=⟨_,rfl⟩
     rw[hz] at g3 ⊢;clear g1 g2 hz hor hset;omega
    have HV2:=hid hv2;clear hv2;have HSET:=hid hset;have HOR:=hid hor;have HBW:=hid hbw;clear hset hor hbw hr hmore hnt hlow hV hx hi hk hy hbits hcs hys e4 hq hN
    go_upto_region 5 with fail
    go_region
    go_wp2_with fail;go_roundw
    case rel=>exact⟨j+1,by omega,by go_num,by rw[HV2.out,HOR.out];exact HSET.out,(HBW.out.setCell (p:=⟨w.heap.size,i,none⟩) qR _).drew⟩
    case measure=>(simp[intOf];try omega)
  · obtain rfl:j=q:=by omega
    have hcv:=ze3 (cp:=N) hr (fun i _=>zio _ i);rw[List.take_of_length_le (by omega)] at hcv;have HBW:=hid hbw;clear hbw hr;go_wp2_with fail;go_ret;exact⟨rfl,HBW.out⟩
end Go.Proofs.YtacelhaidcmbcaaGreatDoor.V
namespace Go.Proofs.YtacelhaidcmbcaaGreatDoor.V
open Go Go.RowKit M U
theorem zaY(n:Nat):∀k,nb (put n k)=n%2^k
 |0=>by simp[put,nb,Nat.mod_one]
 |k+1=>by
  rw[z7G,z0E,zaY n k,z02,Nat.mod_pow_succ];simp only[nb,Nat.mul_zero,Nat.add_zero];rw[Nat.mul_comm (2^k)]
theorem z0C(n k:Nat):∀x∈put n k,x≤1:=fun x hx=>by
 obtain⟨i,_,rfl⟩:=List.mem_map.1 hx;have:=Nat.mod_lt (n/2^i) (show 0<2 by decide);omega
theorem zc7(c s:Nat):∀x∈cdb c s,x≤1:=fun x hx=>by
 obtain⟨i,_,rfl⟩:=List.mem_map.1 hx;have:=Nat.mod_lt (c/2^(s - 1 - i)) (show 0<2 by decide);omega
theorem z6W(kind:Nat)(last:Bool):∀x∈hdb kind last,x≤1:=fun x hx=>by
 unfold hdb at hx;rcases List.mem_append.1 hx with g|g
 · exact z0C _ _ x g
 · exact z0C _ _ x g
end Go.Proofs.YtacelhaidcmbcaaGreatDoor.V
namespace Go.Proofs.YtacelhaidcmbcaaGreatDoor.V
open Go.Lib (hid)
open Go Go.RowKit M U
theorem z2a{B P:Nat}{v:Value}{bs:List Nat}{w:World}(h:Bw B w P v bs)(k:Nat)(hk:k≤2)(A:Option Addr)(n c:Nat)(L:List Tk)(raw:ByteArray)(last:Bool)(hr:k=0→raw.size≤70000)(hT:∀w',Below B w w'→IsTks w' A n L)(hn:n≤10000)(hm:k≠0→∀t∈L,may t=true)(hl:bs.length≤9000000)(hB:B≤w.heap.size):
 Calls Tryz.prog 13 #[.pointer (some ⟨P,0,none⟩),.int .u8 k,.slice A n c,.string raw,.bool last] w fun e w'=>e=.returned (.tuple #[])∧∃v',Bw B w' P v' (bs++bkm k L raw last bs.length)∧Chg P v.ownBlock w v'.ownBlock w':=by
 match k,hk with
 |0,_=>exact z5r h A n c L raw last (hr rfl) hl hB
 |1,_=>exact z6p h A n c L raw last hT hn (hm (by decide)) hl hB
 |2,_=>exact z4u h A n c L raw last hT hn (hm (by decide)) hl hB
theorem Owb.zeros(w:World)(B r:Nat)(hB:B≤w.heap.size)(hr:r≤100):Owb B (w.alloc (.cells (madeCells #[.int .u8 0] r) 5)) (.slice (some ⟨w.heap.size,0,none⟩) r r) (List.replicate r 0):=by
 unfold Owb;refine⟨by simp[z1u],.inr ⟨w.heap.size,r,_,by simp,hB,heap_alloc_new _ _,by simp,by unfold maxLen;omega,by rw[size_madeCells];omega,?_⟩⟩;rw[toList_madeCells_one,List.length_replicate,Nat.mul_one,List.take_of_length_le (by simp)];unfold clb;simp
theorem Bw.zeros(w:World)(r:Nat)(hr:r≤100):Bw w.heap.size ((w.alloc (.cells (madeCells #[.int .u8 0] r) 5)).alloc (.cells #[.slice (some ⟨w.heap.size,0,none⟩) r r] 42)) (w.heap.size+1) (.slice (some ⟨w.heap.size,0,none⟩) r r) (List.replicate r 0):=
 ⟨by have:=heap_alloc_new (w.alloc (.cells (madeCells #[.int .u8 0] r) 5)) (.cells #[.slice (some ⟨w.heap.size,0,none⟩) r r] 42);simpa using this,(Owb.zeros w _ r qR hr).alloc _,by omega⟩
theorem za3(k:Nat)(hk:k≤2)(A:Option Addr)(n c:Nat)(L:List Tk)(raw:ByteArray)(p:Nat)(w:World)(hr:k=0→raw.size≤70000)(hT:∀w',Below w.heap.size w w'→IsTks w' A n L)(hn:n≤10000)(hm:k≠0→∀t∈L,may t=true)(hlen:(bkm k L raw false (p%8)).length≤9000000):
 Calls Tryz.prog 60 #[.int .u8 k,.slice A n c,.string raw,.int .i64 p] w fun e w'=>e=.returned (.int .i64 ((bkm k L raw false (p%8)).length:Nat))∧Below w.heap.size w w':=by
 obtain⟨r,hr8⟩:∃r,p%8=r:=⟨_,rfl⟩
 have hr7:r<8:=by omega
 have e1:(p:Int)%8=(r:Int):=by omega
 rw[hr8] at hlen ⊢;have hmk:=z7Z w r (by omega);have hz:=Bw.zeros w r (by omega);have hbel:Below w.heap.size w ((w.alloc (.cells (madeCells #[.int .u8 0] r) 5)).alloc (.cells #[.slice (some ⟨w.heap.size,0,none⟩) r r] 42)):=(qL).alloc (by simp) _;have hw:=z2a hz k hk A n c L raw false hr (fun w' hb=>hT w' (hbel.trans hb)) hn hm (by simp;omega) (by simp;omega);rw[List.length_replicate] at hw;obtain⟨q,hq⟩:∃q,(bkm k L raw false r).length=q:=⟨_,rfl⟩
 have hlq:(List.replicate r 0++bkm k L raw false r).length=r+q:=by rw[qA,List.length_replicate,hq]
 obtain⟨bs,hbs⟩:∃bs,List.replicate r 0++bkm k L raw false r=bs:=⟨_,rfl⟩
 rw[hbs] at hw hlq;rw[hq] at hlen ⊢;have HW:=hid hw;have HLQ:=hid hlq;have HBL:=hid hbel;have HZ:=hid hz;clear hw hlq hbel hz hbs hq hT hm hr hr8;go_enter Tryz.func60,Tryz.ntmps60;go_wp2_with (go_at_call 13;(with_reducible refine HW.out.mono ?_);rintro e w1 ⟨rfl,v1,h1,c1⟩;obtain⟨A1,c2,hv⟩:=Owb.form h1.ow;rw[HLQ.out] at hv;have k0:=h1.at0;rw[hv] at k0;have B1:=hid (HBL.out.trans (HZ.out.base c1 (by simp;omega)));clear h1 c1 hv);go_ret;exact⟨by simp;omega,B1.out⟩
theorem z6y:∀ (f:Nat) (o:Nat) (s:ByteArray) (last:Bool),s.size≤65535*(f+1)→(stm o s last).length≤8*s.size+42*(f+1)
 |f,o,s,last,h=>by
  have hp:∀n,pd n≤7:=fun n=>by unfold pd;omega
  by_cases h1:s.size≤65535
  · rw[z4C h1,z07]
    have:=hp (o+3);omega
  · have h2:(s.extract 0 65535).size=65535:=by rw[ByteArray.size_extract];omega
    have h3:(s.extract 65535 s.size).size=s.size - 65535:=by rw[ByteArray.size_extract];omega
    have:=hp (o+3);rw[z4D h1,qA];have hl:(stb o (s.extract 0 65535) false).length=3+pd (o+3)+32+65535*8:=by rw[z07,h2]
    match f with
    |0=>omega
    |f+1=>
     have ih:=z6y f (o+(stb o (s.extract 0 65535) false).length) (s.extract 65535 s.size) last (by omega);rw[h3] at ih;omega
theorem zgV(k:Nat)(L:List Tk)(raw:ByteArray)(last:Bool)(o:Nat)(hr:k=0→raw.size≤70000)(hn:L.length≤10000)(hm:k≠0→∀t∈L,may t=true):(blk k L raw last o).length≤6000000:=by
 have hs:=z1h L;unfold blk;by_cases h0:k=0
 · rw[if_pos h0,z07]
   have h1:=hr h0;have:pd (o+3)≤7:=by unfold pd;omega
   omega
 · rw[if_neg h0]
   have hb:∀y∈sys L,y.b≤13:=fun y hy=>(z8O (hm h0) y hy).1
   split
   · unfold sfx
     rw[qA,z04];have:=z1D fxl 288 (fun _=>5) 30 z2O.byte (fun _=>by show 5≤255;decide) (sys L) hb;omega
   · unfold sbs
     rw[qA,qA,z04];have h1:=z6V L;have:=z1D (ll1 L) 286 (ll2 L) 30 (fun i=>qK (z0e _ (by decide) (by decide) i) (by decide)) (fun i=>qK (z0e _ (by decide) (by decide) i) (by decide)) (sys L) hb;omega
theorem zcj(k:Nat)(L:List Tk)(raw:ByteArray)(last:Bool)(o:Nat)(hr:k=0→raw.size≤70000)(hn:L.length≤10000)(hm:k≠0→∀t∈L,may t=true):(bkm k L raw last o).length≤6000000:=by
 unfold bkm
 split
 · rename_i e
   have:=z6y 1 o raw last (by have:=hr e;omega);have:=hr e;omega
 · exact zgV k L raw last o hr hn hm
theorem zeh(k:Nat)(L:List Tk)(raw:ByteArray)(last:Bool)(o:Nat)(hr:k=0→raw.size≤70000)(hn:L.length≤30000)(hm:k≠0→∀t∈L,may t=true):(blk k L raw last o).length≤20000000:=by
 have hs:=z1h L;unfold blk;by_cases h0:k=0
 · rw[if_pos h0,z07]
   have h1:=hr h0;have:pd (o+3)≤7:=by unfold pd;omega
   omega
 · rw[if_neg h0]
   have hb:∀y∈sys L,y.b≤13:=fun y hy=>(z8O (hm h0) y hy).1
   split
   · unfold sfx
     rw[qA,z04];have:=z1D fxl 288 (fun _=>5) 30 z2O.byte (fun _=>by show 5≤255;decide) (sys L) hb;omega
   · unfold sbs
     rw[qA,qA,z04];have h1:=z6V L;have:=z1D (ll1 L) 286 (ll2 L) 30 (fun i=>qK (z0e _ (by decide) (by decide) i) (by decide)) (fun i=>qK (z0e _ (by decide) (by decide) i) (by decide)) (sys L) hb;omega
theorem zel(k:Nat)(L:List Tk)(raw:ByteArray)(last:Bool)(o:Nat)(hr:k=0→raw.size≤70000)(hn:L.length≤30000)(hm:k≠0→∀t∈L,may t=true):(bkm k L raw last o).length≤20000000:=by
 unfold bkm
 split
 · rename_i e
   have:=z6y 1 o raw last (by have:=hr e;omega);have:=hr e;omega
 · exact zeh k L raw last o hr hn hm
end Go.Proofs.YtacelhaidcmbcaaGreatDoor.V
namespace Go.Proofs.YtacelhaidcmbcaaGreatDoor.V
open Go Go.RowKit M U
noncomputable def b3(L:List Tk)(s:ByteArray)(k:Nat):Nat:=(bkm k L s false 0).length
noncomputable def kd(L:List Tk)(s:ByteArray):Nat×Nat:=
 if b3 L s 1<b3 L s 0 then(if b3 L s 2<b3 L s 1 then(2,b3 L s 2) else(1,b3 L s 1)) else(if b3 L s 2<b3 L s 0 then(2,b3 L s 2) else(0,b3 L s 0))
theorem z53(L:List Tk)(s:ByteArray):(kd L s).1≤2:=by
 unfold kd
 split<;>split<;>simp
theorem z6R(L:List Tk)(s:ByteArray):(kd L s).2=b3 L s (kd L s).1:=by
 unfold kd
 split<;>split<;>rfl
theorem zdQ(L:List Tk)(s:ByteArray){k:Nat}(h:k≤2):(kd L s).2≤b3 L s k:=by
 have hc:k=0∨k=1∨k=2:=by omega
 unfold kd
 split<;>split<;>(rcases hc with rfl|rfl|rfl<;>(simp only;omega))
theorem zh0{L:List Tk}{s:ByteArray}{k:Nat}(hs:s.size≤70000)(hn:L.length≤10000)(hm:∀t∈L,may t=true):b3 L s k≤6000000:=zcj k L s false 0 (fun _=>hs) hn (fun _=>hm)
theorem zj7{L:List Tk}{s:ByteArray}(hs:s.size≤70000)(hn:L.length≤10000)(hm:∀t∈L,may t=true):(kd L s).2≤6000000:=by rw[z6R];exact zh0 hs hn hm
theorem zcn{L:List Tk}{s:ByteArray}{k:Nat}(hs:s.size≤70000)(hn:L.length≤30000)(hm:∀t∈L,may t=true):b3 L s k≤20000000:=zel k L s false 0 (fun _=>hs) hn (fun _=>hm)
theorem zeV{L:List Tk}{s:ByteArray}(hs:s.size≤70000)(hn:L.length≤30000)(hm:∀t∈L,may t=true):(kd L s).2≤20000000:=by rw[z6R];exact zcn hs hn hm
def seg(L:List Tk)(f t:Nat):List Tk:=(L.drop f).take (t - f)
theorem z0V{L:List Tk}{f t:Nat}(h:t≤L.length):(seg L f t).length=t - f:=by
 unfold seg;rw[List.length_take,List.length_drop];omega
theorem z18{L:List Tk}{f t:Nat}{x:Tk}(h:x∈seg L f t):x∈L:=List.mem_of_mem_drop (List.mem_of_mem_take h)
theorem zcJ(L:List Tk){f t:Nat}(h:f≤t):L.take t=L.take f++seg L f t:=by
 unfold seg
 conv=>lhs;rw[show t=f+(t - f) by omega,List.take_add]
def szt(L:List Tk)(i:Nat):Nat:=Tx.szs (L.take i)
theorem z1Q(L:List Tk):szt L 0=0:=rfl
theorem z4A(L:List Tk){f t:Nat}(h:f≤t):szt L f+Tx.szs (seg L f t)=szt L t:=by
 unfold szt;rw[zcJ L h,Tx.szs_append]
theorem z0w(L:List Tk){f t:Nat}(h:f≤t):szt L f≤szt L t:=by
 have:=z4A L h;omega
theorem z2c{L:List Tk}{n:Nat}(h:L.length≤n):szt L n=Tx.szs L:=by
 unfold szt;rw[List.take_of_length_le h]
noncomputable def kp(L:List Tk)(s:ByteArray)(f t:Nat):Nat×Nat:=kd (seg L f t) (s.extract (szt L f) (szt L t))
def pst(K:Nat→Nat→Nat×Nat)(c:Nat→Nat):Nat→List (Nat×Nat)×(Nat×Nat)
 |0=>([],(c 0,c 1))
 |k+1=>if(K (pst K c k).2.1 (c (k+2))).2≤(K (pst K c k).2.1 (c (k+1))).2+(K (c (k+1)) (c (k+2))).2 then((pst K c k).1,((pst K c k).2.1,c (k+2))) else((pst K c k).1++[(pst K c k).2],(c (k+1),c (k+2)))
def prt(K:Nat→Nat→Nat×Nat)(c:Nat→Nat)(k:Nat):List (Nat×Nat):=(pst K c k).1++[(pst K c k).2]
theorem z37(K:Nat→Nat→Nat×Nat)(c:Nat→Nat):∀k,(pst K c k).2.2=c (k+1)
 |0=>rfl
 |k+1=>by rw[pst];split<;>rfl
theorem z0Z(K:Nat→Nat→Nat×Nat)(c:Nat→Nat):∀k,(prt K c k).length≤k+1
 |0=>by simp[prt,pst]
 |k+1=>by
  have ih:=z0Z K c k;unfold prt at ih ⊢;rw[qA] at ih;rw[pst]
  split<;>(simp only[qA,qC,List.length_nil] at ih ⊢;omega)
def Chn:Nat→List (Nat×Nat)→Nat→Prop
 |a,[],b=>a=b
 |a,q::l,b=>q.1=a∧a≤q.2∧Chn q.2 l b
theorem Chn.append:∀ {l:List (Nat×Nat)} {r:List (Nat×Nat)} {a b d:Nat},Chn a l b→Chn b r d→Chn a (l++r) d
 |[],_,_,_,_,h,h2=>by cases h;exact h2
 |q::l,_,_,_,_,h,h2=>⟨h.1,h.2.1,Chn.append h.2.2 h2⟩
theorem Chn.le:∀ {l:List (Nat×Nat)} {a b:Nat},Chn a l b→a≤b
 |[],_,_,h=>Nat.le_of_eq h
 |q::l,_,_,h=>qK h.2.1 (Chn.le h.2.2)
def z1y(K:Nat→Nat→Nat×Nat):List (Nat×Nat)→Nat
 |[]=>0
 |q::l=>(K q.1 q.2).2+z1y K l
theorem z0u(K:Nat→Nat→Nat×Nat):∀l r,z1y K (l++r)=z1y K l+z1y K r
 |[],r=>by simp[z1y]
 |q::l,r=>by simp only[List.cons_append,z1y,z0u K l r];omega
def z3R(K:Nat→Nat→Nat×Nat)(c:Nat→Nat):Nat→Nat
 |0=>0
 |k+1=>z3R K c k+(K (c k) (c (k+1))).2
theorem z4L(K:Nat→Nat→Nat×Nat)(c:Nat→Nat)(hc:∀i,c i≤c (i+1)):∀k,Chn (c 0) (pst K c k).1 (pst K c k).2.1∧(pst K c k).2.1≤c k
 |0=>⟨rfl,qR⟩
 |k+1=>by
  obtain⟨h1,h2⟩:=z4L K c hc k;rw[pst]
  split
  · exact⟨h1,qK h2 (hc k)⟩
  · refine⟨Chn.append h1 ⟨rfl,?_,?_⟩,qR⟩
    · rw[z37];exact qK h2 (hc k)
    · exact z37 K c k
theorem zg4(K:Nat→Nat→Nat×Nat)(c:Nat→Nat)(hc:∀i,c i≤c (i+1))(k:Nat):Chn (c 0) (prt K c k) (c (k+1)):=by
 obtain⟨h1,h2⟩:=z4L K c hc k;refine Chn.append h1 ⟨rfl,?_,z37 K c k⟩;rw[z37];exact qK h2 (hc k)
theorem z7I(K:Nat→Nat→Nat×Nat)(c:Nat→Nat):∀k,z1y K (prt K c k)≤z3R K c (k+1)
 |0=>by simp[prt,pst,z1y,z3R]
 |k+1=>by
  have ih:=z7I K c k;have ht:=z37 K c k;unfold prt at ih ⊢;rw[z0u] at ih;rw[z3R];have e:z1y K [(pst K c k).2]=(K (pst K c k).2.1 (c (k+1))).2:=by rw[←ht];simp[z1y]
  rw[e] at ih;rw[pst]
  split
  · rename_i h
    rw[z0u];show z1y K (pst K c k).1+((K (pst K c k).2.1 (c (k+2))).2+0)≤z3R K c (k+1)+(K (c (k+1)) (c (k+2))).2
    omega
  · rw[z0u,z0u,e]
    show z1y K (pst K c k).1+(K (pst K c k).2.1 (c (k+1))).2+((K (c (k+1)) (c (k+2))).2+0)≤z3R K c (k+1)+(K (c (k+1)) (c (k+2))).2
    omega
def cut(n i:Nat):Nat:=min (1024*i) n
theorem z1b(n i:Nat):cut n i≤cut n (i+1):=by unfold cut;omega
theorem z1s(n:Nat):cut n 0=0:=by unfold cut;omega
def cnk(n:Nat):Nat:=(n - 1) /1024
theorem z75(n:Nat):cut n (cnk n+1)=n:=by unfold cut cnk;omega
theorem z5c{n i:Nat}(h:i≤cnk n)(hn:0<n):cut n i<n∧cut n i=1024*i:=by unfold cut;unfold cnk at h;omega
noncomputable def pts(L:List Tk)(s:ByteArray):List (Nat×Nat):=prt (kp L s) (cut L.length) (cnk L.length)
theorem zaz(L:List Tk)(s:ByteArray):Chn 0 (pts L s) L.length:=by
 have h:=zg4 (kp L s) (cut L.length) (z1b L.length) (cnk L.length);rw[z1s,z75] at h;exact h
theorem zdg(L:List Tk)(s:ByteArray):z1y (kp L s) (pts L s)≤z3R (kp L s) (cut L.length) (cnk L.length+1):=z7I _ _ _
theorem zay(L:List Tk)(s:ByteArray)(h:L.length≤1024):pts L s=[(0,L.length)]:=by
 have e:cnk L.length=0:=by unfold cnk;omega
 unfold pts;rw[e];simp only[prt,pst,List.nil_append,z1s];rw[show cut L.length 1=L.length by unfold cut;omega]
end Go.Proofs.YtacelhaidcmbcaaGreatDoor.V
