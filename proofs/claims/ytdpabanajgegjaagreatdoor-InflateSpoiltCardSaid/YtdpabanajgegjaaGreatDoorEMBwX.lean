/- Texts of one place, one behind the other: BwX, BwZ. -/
import Derived.Test.YtdpabanajgegjaaGreatDoorEMRns
import Derived.Lib.ConvBytes
import Derived.StillTailTactics
import Derived.Deep.CutRange
import Derived.BigRegion
set_option linter.unusedVariables false
set_option linter.unusedSimpArgs false
namespace Go.Proofs.YtdpabanajgegjaaGreatDoor.V
open Go.Lib (hid)
open Go Go.RowKit M U
def nb:List Nat→Nat
 |[]=>0
 |b::l=>b+2*nb l
theorem nb_append:∀l r:List Nat,nb (l++r)=nb l+nb r*2^l.length
 |[],r=>by simp[nb]
 |b::l,r=>by
  simp only[List.cons_append,nb,nb_append l r,List.length_cons,Nat.pow_succ];rw[Nat.mul_add,←Nat.mul_assoc,Nat.mul_comm 2 (nb r),Nat.mul_assoc,Nat.mul_comm 2 (2^l.length)];omega
theorem nb_lt:∀l:List Nat,(∀x∈l,x≤1)→nb l<2^l.length
 |[],_=>by simp[nb]
 |b::l,h=>by
  have h1:=h b List.mem_cons_self;have h2:=nb_lt l (fun x hx=>h x (List.mem_cons_of_mem _ hx));simp only[nb,List.length_cons,Nat.pow_succ];omega
theorem nb_take(l:List Nat)(j:Nat)(hj:j<l.length):nb (l.take (j+1))=nb (l.take j)+l.getD j 0*2^j:=by
 rw[List.take_add_one,List.getElem?_eq_getElem hj,nb_append,List.length_take,Nat.min_eq_left (by omega),List.getD,List.getElem?_eq_getElem hj];simp[nb]
def byn(V i:Nat):Nat:=V/256^i%256
theorem byn_lt(V i:Nat):byn V i<256:=Nat.mod_lt _ (by decide)
theorem p8(i:Nat):(256:Nat)^i=2^(8*i):=by rw[Nat.pow_mul]
theorem byn_more{V b j:Nat}(hV:V<2^j)(hb:b≤1)(i:Nat):byn (V+b*2^j) i=if i=j/8 then byn V i+b*2^(j%8) else byn V i:=by
 have hs:∀i,8*i≤j→(V+b*2^j) /256^i=V/256^i+b*2^(j - 8*i):=fun i hi=>by
  have e:2^j=256^i*2^(j - 8*i):=by rw[p8,←Nat.pow_add];congr 1;omega
  rw[e,Nat.mul_comm b,Nat.mul_assoc,Nat.add_mul_div_left _ _ (Nat.pow_pos (by decide)),Nat.mul_comm _ b]
 unfold byn;by_cases q:i=j/8
 · rw[if_pos q,hs i (by omega)]
   have e2:j - 8*i=j%8:=by omega
   rw[e2]
   have hlt:V/256^i<2^(j%8):=by
    rw[Nat.div_lt_iff_lt_mul (Nat.pow_pos (by decide)),p8,←Nat.pow_add];exact Nat.lt_of_lt_of_eq hV (by congr 1;omega)
   have h8:2^(j%8)≤128:=Nat.le_trans (Nat.pow_le_pow_right (by decide) (show j%8≤7 by omega)) (by decide)
   have hb2:b*2^(j%8)≤2^(j%8):=by
    rcases Nat.le_one_iff_eq_zero_or_eq_one.1 hb with rfl|rfl<;>simp
   obtain⟨x,hx⟩:∃x,V/256^i=x:=⟨_,rfl⟩
   obtain⟨y,hy⟩:∃y,b*2^(j%8)=y:=⟨_,rfl⟩
   obtain⟨z,hz⟩:∃z,2^(j%8)=z:=⟨_,rfl⟩
   rw[hx,hy];rw[hx,hz] at hlt;rw[hz] at h8;rw[hy,hz] at hb2;clear hx hy hz e2 hs hV q hb;omega
 · rw[if_neg q]
   by_cases r:8*i≤j
   · rw[hs i r]
     have e3:2^(j - 8*i)=256*2^(j - 8*i - 8):=by rw[show(256:Nat)=2^8 from rfl,←Nat.pow_add];congr 1;omega
     rw[e3,Nat.mul_left_comm,Nat.add_mul_mod_self_left]
   · have hp:2^(j+1)≤256^i:=by rw[p8];exact Nat.pow_le_pow_right (by decide) (by omega)
     have hb2:b*2^j≤2^j:=by
      rcases Nat.le_one_iff_eq_zero_or_eq_one.1 hb with rfl|rfl<;>simp
     rw[Nat.pow_succ] at hp;rw[Nat.div_eq_of_lt (by omega),Nat.div_eq_of_lt (by omega)]
theorem byn_low{V j:Nat}(hV:V<2^j):byn V (j/8)<2^(j%8):=by
 unfold byn;refine Nat.lt_of_le_of_lt (Nat.mod_le _ _) ?_
 rw[Nat.div_lt_iff_lt_mul (Nat.pow_pos (by decide)),p8,←Nat.pow_add];exact Nat.lt_of_lt_of_eq hV (by congr 1;omega)
theorem or_bit8{x b k:Nat}(hx:x<2^k)(hk:k≤7)(hb:b≤1):bits .or .u8 (x:Int) ((b*2^k:Nat):Int)=((x+b*2^k:Nat):Int):=by
 have h8:2^k≤128:=Nat.le_trans (Nat.pow_le_pow_right (by decide) hk) (by decide)
 have hb2:b*2^k≤2^k:=by
  rcases Nat.le_one_iff_eq_zero_or_eq_one.1 hb with rfl|rfl<;>simp
 have e:x|||b*2^k=x+b*2^k:=by
  rw[Nat.or_comm,Nat.mul_comm b,←Nat.two_pow_add_eq_or_of_lt hx,Nat.add_comm]
 have key:∀x y:Nat,x<256→y<256→bits .or .u8 (x:Int) (y:Int)=((x|||y:Nat):Int):=by
  intro x y h1 h2;have h3:x|||y<2^8:=Nat.or_lt_two_pow h1 h2
  have g1:(BitVec.ofInt 8 (x:Int)).toNat=x:=by
   rw[BitVec.ofInt_natCast,BitVec.toNat_ofNat];exact Nat.mod_eq_of_lt (by omega)
  have g2:(BitVec.ofInt 8 (y:Int)).toNat=y:=by
   rw[BitVec.ofInt_natCast,BitVec.toNat_ofNat];exact Nat.mod_eq_of_lt (by omega)
  show IntKind.u8.wrap ((BitVec.ofInt 8 (x:Int)|||BitVec.ofInt 8 (y:Int)).toNat:Int)=_
  rw[BitVec.toNat_or,g1,g2,IntKind.wrap_u8];omega
 rw[key _ _ (by omega) (by omega),e]
theorem made_any(w:World)(n:Nat)(hn:n≤130000):(Instr.makeSlice 23 (.int .i64 (n:Int)) (.int .i64 (n:Int))).run Tryz.prog w=.ok (.slice (some ⟨w.heap.size,0,none⟩) n n) (w.alloc (.cells (madeCells #[.int .u8 0] n) 5)):=by
 obtain⟨i,h1,h2,h3,h4⟩:=info_of byteInfo;exact run_make_row 23 5 i _ Tryz.underlying23 h1 h2 h3 rfl .i64 .i64 n (by rw[h4];omega) (by omega) w
theorem conv_any{w:World}{b n cp:Nat}{f:Nat→Nat}(h:w.rowIs b 5 n (fun j=> .int .u8 (f j:Nat)))(hf:∀j,j<n→f j<256):
 (convert 23 9 (.slice (some ⟨b,0,none⟩) n cp)).run Tryz.prog w=.ok (.string ⟨((List.range n).map fun j=>UInt8.ofNat (f j)).toArray⟩) w:=by
 have hl:((List.range n).map fun j=>UInt8.ofNat (f j)).length=n:=by rw[List.length_map,List.length_range]
 have:=run_convert_bytes_back (P:= Tryz.prog) w 23 9 5 ⟨b,0,none⟩ cp ((List.range n).map fun j=>UInt8.ofNat (f j)) Tryz.underlying23 Tryz.underlying5 Tryz.underlying9 (fun i hi=>by
  rw[hl] at hi
  have ha:(⟨b,0,none⟩:Addr).add i=⟨b,i,none⟩:=by
   unfold Addr.add
   split
   · rename_i g;subst g;rfl
   · simp
  rw[ha,h.cell hi,List.getElem_map,List.getElem_range,UInt8.toNat_ofNat',Nat.mod_eq_of_lt (hf i hi)])
 rw[hl] at this;exact this
set_option maxRecDepth 1000000 in
set_option maxHeartbeats 4000000 in
theorem text_any{B P:Nat}{v:Value}{bs:List Nat}{w:World}(h:Bw B w P v bs)(hbit:∀x∈bs,x≤1)(hl:bs.length≤1000000)(hB:B≤w.heap.size):
 Calls Tryz.prog 21 #[.pointer (some ⟨P,0,none⟩)] w fun e w'=>e=.returned (.string ⟨((List.range ((bs.length+7) /8)).map fun i=>UInt8.ofNat (byn (nb bs) i)).toArray⟩)∧Below w.heap.size w w':=by
 obtain⟨q,hq⟩:∃q,bs.length=q:=⟨_,rfl⟩
 rw[hq] at hl;obtain⟨N,hN⟩:∃N,(q+7) /8=N:=⟨_,rfl⟩
 have e1:((q:Int)+7) /8=(N:Int):=by omega
 have hN2:N≤130000:=by omega
 have hmk:=made_any w N hN2;obtain⟨A,c,hv⟩:=Owb.form h.ow;rw[hq] at hv;subst hv;have c0:=h.at0;have hPlt:=h.lt;have HB:=hid h;rw[hq,hN];have hr0:(w.alloc (.cells (madeCells #[.int .u8 0] N) 5)).rowIs w.heap.size 5 N (fun i=> .int .u8 (byn (nb (bs.take 0)) i:Nat)):=(World.rowIs_made w (.int .u8 0) N 5).congr (fun j _=>by unfold byn nb;simp);have HR:=hid hr0;have HBIT:=hid hbit;clear h hbit hr0;go_enter Tryz.func21,Tryz.ntmps21;go_wp2_with fail;clear hmk
 go_loopw [4] (fun x wr=> ∃j:Nat,j≤q∧x=.int .i64 j∧wr.rowIs w.heap.size 5 N (fun i=> .int .u8 (byn (nb (bs.take j)) i:Nat))∧Below w.heap.size w wr) (fun x _=>q - (intOf x).toNat)
 case atStart=>exact⟨0,Nat.zero_le _,rfl,HR.out,(Below.refl _ _).alloc (Nat.le_refl _) _⟩
 case round=>
  obtain⟨j,hj,rfl,hr,hbw⟩:=hrel;have cr:=(hbw.cell (p:=⟨P,0,none⟩) hPlt).trans c0;by_cases hlt:j<q
  · have hbits:=HBIT.out
    obtain⟨A',c',hv',hys⟩:=Owb.bys HB.out.ow (fun x hx=>Nat.le_trans (hbits x hx) (by decide)) (by rw[hq];unfold maxLen;omega);rw[hq] at hv' hys;injection hv' with e3 _ e4
    subst e3;obtain⟨b,o,rfl,hbl,hcs⟩:=hys.at (by omega);have c1:=(hbw.cell (p:=⟨b,o+j,none⟩) hbl).trans (hcs j hlt)
    have hx1:bs.getD j 0≤1:=by
     rw[List.getD,List.getElem?_eq_getElem (by omega)];exact hbits _ (List.getElem_mem _)
    obtain⟨x,hx⟩:∃x,bs.getD j 0=x:=⟨_,rfl⟩
    obtain⟨i,hi⟩:∃i,j/8=i:=⟨_,rfl⟩
    obtain⟨k,hk⟩:∃k,j%8=k:=⟨_,rfl⟩
    have hiN:i<N:=by omega
    have hk8:k<8:=by omega
    have hi1:(j:Int) /8=(i:Int):=by omega
    have hk1:(j:Int)%8=(k:Int):=by omega
    have hV:=nb_lt (bs.take j) (fun y hy=>hbits y (List.mem_of_mem_take hy));rw[List.length_take,Nat.min_eq_left (by omega)] at hV;have hlow:=byn_low hV;rw[hi,hk] at hlow;rw[hx] at c1 hx1;have hnt:=nb_take bs j (by omega);rw[hx] at hnt;have hmore:=byn_more hV hx1;rw[←hnt,hi,hk] at hmore;have c2:wr.cell? ⟨w.heap.size,i,none⟩=some (.int .u8 (byn (nb (bs.take j)) i:Nat)):=hr.cell hiN;have hfz:=hr.frozen i;obtain⟨y,hy⟩:∃y,byn (nb (bs.take j)) i=y:=⟨_,rfl⟩
    rw[hy] at c2 hlow;have hor:=or_bit8 hlow (by omega) hx1
    have hset:(wr.setCell ⟨w.heap.size,i,none⟩ (.int .u8 (y+x*2^k:Nat))).rowIs w.heap.size 5 N (fun i=> .int .u8 (byn (nb (bs.take (j+1))) i:Nat)):=(hr.set i (.int .u8 (y+x*2^k:Nat))).congr (fun i' hi'=>by
     rw[hmore i'];by_cases q:i'=i
     · rw[if_pos q,if_pos q,q,hy]
     · rw[if_neg q,if_neg q])
    have w1:IntKind.i64.wrap ((j:Int) /8)=(i:Int):=by rw[hi1,IntKind.wrap_i64];omega
    have w2:IntKind.i64.wrap (Int.tdiv (j:Int) 8)=(i:Int):=by rw[Int.tdiv_eq_ediv_of_nonneg (by omega)];exact w1
    have w3:IntKind.i64.wrap ((j:Int)%8)=(k:Int):=by rw[hk1,IntKind.wrap_i64];omega
    have w4:IntKind.i64.wrap (Int.tmod (j:Int) 8)=(k:Int):=by rw[Int.tmod_eq_emod_of_nonneg (by omega)];exact w3
    have w9:IntKind.i64.wrap (i:Int)=(i:Int):=by rw[IntKind.wrap_i64];omega
    have w10:IntKind.i64.wrap (k:Int)=(k:Int):=by rw[IntKind.wrap_i64];omega
    have w11:IntKind.u64.wrap (k:Int)=(k:Int):=by rw[IntKind.wrap_u64];omega
    have w12:Int.tdiv (j:Int) 8=(i:Int):=by rw[Int.tdiv_eq_ediv_of_nonneg (by omega)];exact hi1
    have w13:Int.tmod (j:Int) 8=(k:Int):=by rw[Int.tmod_eq_emod_of_nonneg (by omega)];exact hk1
    have w5:(0:Int)≤(i:Int):=by omega
    have w6:(i:Int)<(N:Int):=by omega
    have w7:(0:Int)≤(j:Int):=by omega
    have w8:(j:Int)<(q:Int):=by omega
    have hv2:(x:Int)*2^k%256=((x*2^k:Nat):Int):=by
     have g1:((2:Int)^k)=((2^k:Nat):Int):=by rw[Int.natCast_pow];rfl
     have g2:2^k≤128:=Nat.le_trans (Nat.pow_le_pow_right (by decide) (show k≤7 by omega)) (by decide)
     have g3:x*2^k≤128:=by
      rcases Nat.le_one_iff_eq_zero_or_eq_one.1 hx1 with rfl|rfl
      · rw[Nat.zero_mul];decide
      · rw[Nat.one_mul];exact g2
     rw[g1,←Int.natCast_mul];obtain⟨z,hz⟩:∃z,x*2^k=z:=⟨_,rfl⟩
     rw[hz] at g3 ⊢;clear g1 g2 hz hor hset;omega
    have HV2:=hid hv2;clear hv2;have HSET:=hid hset;have HOR:=hid hor;have HBW:=hid hbw;clear hset hor hbw hr hmore hnt hlow hV hx hi hk hy hbits hcs hys e4 hq hN
    go_upto_region 5 with fail
    go_region
    go_wp2_with fail;go_roundw
    case rel=>exact⟨j+1,by omega,by go_num,by rw[HV2.out,HOR.out];exact HSET.out,(HBW.out.setCell (p:=⟨w.heap.size,i,none⟩) (Nat.le_refl _) _).drew⟩
    case measure=>(simp[intOf];try omega)
  · obtain rfl:j=q:=by omega
    have hcv:=conv_any (cp:=N) hr (fun i _=>byn_lt _ i);rw[List.take_of_length_le (by omega)] at hcv;have HBW:=hid hbw;clear hbw hr;go_wp2_with fail;go_ret;exact⟨rfl,HBW.out⟩
end Go.Proofs.YtdpabanajgegjaaGreatDoor.V
namespace Go.Proofs.YtdpabanajgegjaaGreatDoor.V
open Go Go.RowKit M U
theorem put_bit(n k:Nat):∀x∈put n k,x≤1:=fun x hx=>by
 obtain⟨i,_,rfl⟩:=List.mem_map.1 hx;have:=Nat.mod_lt (n/2^i) (show 0<2 by decide);omega
theorem cdb_bit(c s:Nat):∀x∈cdb c s,x≤1:=fun x hx=>by
 obtain⟨i,_,rfl⟩:=List.mem_map.1 hx;have:=Nat.mod_lt (c/2^(s - 1 - i)) (show 0<2 by decide);omega
theorem hdb_bit(kind:Nat)(last:Bool):∀x∈hdb kind last,x≤1:=fun x hx=>by
 unfold hdb at hx;rcases List.mem_append.1 hx with g|g
 · exact put_bit _ _ x g
 · exact put_bit _ _ x g
end Go.Proofs.YtdpabanajgegjaaGreatDoor.V
