import Derived.Test.YthgilhebnlglkaaGreatDoorEMQtB
import Derived.WalkSpells
set_option linter.all false
set_option maxHeartbeats 8000000
set_option maxRecDepth 1000000
open Go.Proofs.Tryz
namespace Go.Proofs.YthgilhebnlglkaaGreatDoor
open Go.RowKit M
variable {w w':World} {B p k c V L:Nat} {ao:Option Addr} {most:Int} {S T:Nat->Prop}
theorem z4M{w:World}{B n:Nat}{v:Value}{ns:List Int}(h:w.ownsRow B 5 1 v n (ns.map (Value.int .u8))):
 (convert 26 9 v).run prog w=.ok (.string (zhJ (ns.map λn=>UInt8.ofNat n.toNat))) w:=by
 have hlen:=h.1;rw[List.length_map,Nat.mul_one] at hlen;rcases h.2 with⟨rfl,hn⟩|⟨g,cap,cur,rfl,r⟩
 · subst hn
   obtain rfl:=List.eq_nil_of_length_eq_zero hlen;rw[run_convert_bytes_string (P:= prog) w 26 9 5 _ _ _ underlying26 underlying5 underlying9];rfl
 · have hc:=h.cellAt
   rw[run_convert_bytes_string (P:= prog) w 26 9 5 _ _ _ underlying26 underlying5 underlying9];have hl:=run_loadCells_list (P:= prog) w ⟨g,0,none⟩ (ns.map (Value.int .u8)) (λj v hj=>by
    have hjl:j<n:=by
     have:=(List.getElem?_eq_some_iff.1 hj).1;rw[List.length_map] at this;omega
    have:=hc j (by omega);rw[hj] at this;by_cases e:j=0
    · subst e;simpa [Addr.add] using this
    · simpa [Addr.add,e] using this)
   rw[List.length_map,hlen] at hl;rw[run_bytesToString (P:= prog) w ⟨g,0,none⟩ n cap ns hl,z99];rfl
theorem z5U(hown:w.ownsRow B 5 1 (.slice ao k c) k ((bys V k).map (Value.int .u8)))(hk:k<=1000000000):
 Calls prog 165 #[.slice ao k c] w λe w'=> ∃ao' c',e=.returned (.slice ao' k c')/\w'.ownsRow w.heap.size 5 1 (.slice ao' k c') k ((bys V k).map (Value.int .u8))/\Kept NoB w w':=by
 obtain⟨i0,hi,hz0,hz1,hz2⟩:=info_parts z6C;cases ao with
 |none=>
  obtain⟨h1,h2⟩:=hown;rcases h2 with⟨h2,h3⟩|⟨g,cap,cur,h2,_⟩
  · subst h3
    obtain rfl:c=0:=by injection h2
    have heq:=Lib.run_eql_slice_nil (P:= prog) w 26 5 none 0 0 0 0 underlying26;go_enter func165,ntmps165;go_wp2_with fail;go_ret;exact⟨none,0,rfl,World.ownsRow_nil _ _ _ _,Kept.refl _ _⟩
  · cases h2
 |some a=>
  have hcells:∀g,a.block=g->∀j u,((bys V k).map (Value.int .u8))[j]? =some u->w.cell? ((⟨g,0,none⟩:Addr).add j)=some u:=λg hg=>hown.cells (g:=g) (by simp[Value.ownBlock,hg])
  obtain⟨h1,h2⟩:=hown;rcases h2 with⟨h2,_⟩|⟨g,cap,cur,h2,h3,h4,h5,h6,h7,h8⟩
  · cases h2
  · obtain⟨rfl,rfl⟩:a=⟨g,0,none⟩/\c=cap:=by
     injection h2 with e1 e2 e3
     injection e1 with e4
     exact⟨e4,e3⟩
    have hc:=qH (hcells g rfl);have hg:=qH h4;clear hcells h1 h2 h4 h7 h8;have heq:=Lib.run_eql_slice_nil (P:= prog) w 26 5 (some ⟨g,0,none⟩) k c 0 0 underlying26;go_enter func165,ntmps165;go_wp2_with (at_builtin;refine wpList_append_own _ rfl (.tmp 5) (.tmp 6) 26 rfl w.heap.size 5 i0 (.int .u8 0) 1 1 underlying26 hi hz0 hz1 hz2 rfl (by decide) (.slice (some ⟨w.heap.size,0,none⟩) 0 0) 0 [] rfl (World.ownsRow_made w #[] 0 qR (by decide) rfl) ⟨g,0,none⟩ k c ((bys V k).map (Value.int .u8)) rfl ?c1 ?c2 ?c3 ?c4 ?c5 ?c6 ?_)
    case c1=>simp[z9e]
    case c2=>exact λj u hu=>((Kept.refl NoB w).alloc _).cell (hc.o j u hu) (λg=>g)
    case c3=>
     intro u hu;obtain⟨x,_,rfl⟩:=List.mem_map.1 hu;rfl
    case c4=>unfold maxLen;omega
    case c5=>omega
    case c6=>simp
    intro v' w1 hown1 hgr1 hnil1;have hk1:=((Kept.refl NoB w).alloc (.cells #[] 5)).grown hgr1 (λj hj=> .inr (Nat.le_of_eq (by simpa [Value.ownBlock] using hj)));have hform:∃ao' c',v'=.slice ao' k c':=by
     rcases hown1.2 with⟨e1,e2⟩|⟨g',cap',cur',e1,_⟩
     · exact⟨none,0,by rw[e1,e2]⟩
     · exact⟨_,_,e1⟩
    obtain⟨ao',c',rfl⟩:=hform;have R:=qH (And.intro hown1 hk1);clear hown1 hk1 hgr1 hnil1 heq;go_wp2_with fail;go_ret;exact⟨ao',c',rfl,R.o.1,R.o.2⟩
theorem z3x(h:Wt w B p S most V L)(hL:L<=900000000)(h8:L%8=0):
 Calls prog 116 #[.pointer (some ⟨p,0,none⟩)] w λe w'=>e=.returned (.string (z1y V L))/\Kept NoB w w':=by
 obtain⟨ao,c,h,hS⟩:=h;have c0:=h.c0;have c2:=h.c2;have c4:=h.c4;rw[show L - 8*(L/8)=0 by omega] at c4;have hconv:=z4M h.own;rw[zfP,<-z8x h8] at hconv;clear h hS h8;go_enter func116,ntmps116;go_wp2_with (go_at_call 164;refine(z0H p _ c0).mono ?_;rintro e w' ⟨rfl,rfl⟩);go_ret;exact⟨rfl,Kept.refl _ _⟩
theorem z7z{B n size:Nat}{e:TypeId}{v:Value}{xs:List Value}(h:w.ownsRow B e size v n xs):w.ownsRow 0 e size v n xs:=by
 obtain⟨h1,h2⟩:=h;refine⟨h1,?_⟩;rcases h2 with h2|⟨g,cap,cur,hv,hg,r⟩
 · exact .inl h2
 · exact .inr ⟨g,cap,cur,hv,qZ,r⟩
theorem z4k(h:Wt w B p S most V L)(hL:L<=900000000)(h8:L%8≠0):
 Calls prog 116 #[.pointer (some ⟨p,0,none⟩)] w λe w'=>e=.returned (.string (z1y V L))/\Kept NoB w w':=by
 obtain⟨i0,hi,hz0,hz1,hz2⟩:=info_parts z6C;obtain⟨ao,c,h,hS⟩:=h;have c0:=h.c0;have c2:=h.c2;have c3:=h.c3;have c4:=h.c4;obtain⟨m,hm⟩:∃m,L - 8*(L/8)=m:=⟨_,rfl⟩
 obtain⟨X,hX⟩:∃X,V/256^(L/8)=X:=⟨_,rfl⟩
 obtain⟨k,hk⟩:∃k,L/8=k:=⟨_,rfl⟩
 have ht:=z9R (V:=V) h8;have hown:=h.own;rw[hm] at c4;rw[hX] at c3 ht;rw[hk] at c2 hown ht;have hm0:((m:Int)==0)=false:=(by rw[qN];omega);have hk2:k<=1000000000:=(by omega);have hx8:IntKind.u8.wrap (X:Int)=((X%256:Nat):Int):=(by rw[IntKind.wrap_u8];rfl);have ht2:zhJ ((bys V k).map (λn=>UInt8.ofNat n.toNat)++[UInt8.ofNat (IntKind.u8.wrap (X:Int)).toNat])=z1y V L:=(by rw[ht,List.map_append,hx8];rfl);obtain⟨HT,HO⟩:=qh2 ht2 hown;have hp:=h.lt;clear h hS h8 hm hX hk ht hown hx8 ht2;go_enter func116,ntmps116;go_wp2_with (go_at_call 164;refine(z0H p _ c0).mono ?_;rintro e w' ⟨rfl,rfl⟩)
 go_region_law (first
  |(refine step_append_lies _ rfl (.tmp 20) (.tmp 26) 26 rfl 0 5 i0 (.int .u8 0) 1 1 underlying26 hi hz0 hz1 hz2 rfl (by decide) (.slice ao1 k c1) k ((bys V k).map (Value.int .u8)) (by simp[Act.eval]) (World.ownsRow.alloc (w:=w1) H1.o _) ⟨w1.heap.size,0,none⟩ 1 1 [.int .u8 (IntKind.u8.wrap (X:Int))] (by simp[Act.eval]) rfl (by intro i u hi;match i,hi with|0,hi=>(simp at hi;subst hi;simp[Addr.add])) (by intro u hu;simp at hu;subst hu;rfl) (by decide) (by unfold maxLen;omega) (by omega) qZ (w1.heap.size+1) (by simp) ?_;intro g cap w3 hown3 hgrow hat hlt1;have hconv:=z4M (ns:=bys V k++[IntKind.u8.wrap (X:Int)]) (by rw[List.map_append];exact hown3);have HK3:=qH ((HK1.o.alloc _).grown hgrow HF1.o);clear hown3 hgrow hat hlt1)
  |(refine step_append_lies _ rfl (.tmp 20) (.tmp 26) 26 rfl 0 5 i0 (.int .u8 0) 1 1 underlying26 hi hz0 hz1 hz2 rfl (by decide) (.slice ao1 k c1) k ((bys V k).map (Value.int .u8)) (by simp[Act.eval]) H1.o ⟨w.heap.size,0,none⟩ 1 1 [.int .u8 (IntKind.u8.wrap (X:Int))] (by simp[Act.eval]) rfl (by intro i u hi;match i,hi with|0,hi=>(simp at hi;subst hi;simpa [Addr.add] using ncell)) (by intro u hu;simp at hu;subst hu;rfl) (by decide) (by unfold maxLen;omega) (by omega) qZ (w1.heap.size) rfl ?_;intro g cap w3 hown3 hgrow hat hlt1;have hconv:=z4M (ns:=bys V k++[IntKind.u8.wrap (X:Int)]) (by rw[List.map_append];exact hown3);have HK3:=qH (HK1.o.grown hgrow HF1.o);clear hown3 hgrow hat hlt1)
  |(go_simp;go_at_call 165;refine(z5U (B:=B) (V:=V) (w:=w.drew) HO.o hk2).mono ?_;rintro e w1 ⟨ao1,c1,rfl,r1,r2⟩;have hk1:=((Kept.refl NoB w).drew).trans r2 (λ_ g=>g.elim);have e3:=hk1.cell c3 (λg=>g);have H1:=qH (z7z r1);have HK1:=qH hk1;have HF1:Hd (∀j,Value.ownBlock (.slice ao1 k c1)=some j->NoB j\/w.heap.size<=j):=(λj hj=> .inr (r1.lt j hj).1);clear r1 r2 hk1)
  |(go_simp;go_at_call 165;refine(z5U (B:=B) (V:=V) (w:=(w.alloc (.cells #[.int .u8 (IntKind.u8.wrap (X:Int))] 5)).drew) (World.ownsRow.alloc HO.o _) hk2).mono ?_;rintro e w1 ⟨ao1,c1,rfl,r1,r2⟩;have hk1:=(((Kept.refl NoB w).alloc _).drew).trans r2 (λ_ g=>g.elim);have ncell:=r2.cell (a:=⟨w.heap.size,0,none⟩) (v:=.int .u8 (IntKind.u8.wrap (X:Int))) (by simp) (λg=>g);have H1:=qH (z7z r1);have HK1:=qH hk1;have HF1:Hd (∀j,Value.ownBlock (.slice ao1 k c1)=some j->NoB j\/w.heap.size<=j):=(λj hj=> .inr (qK (by simp) (r1.lt j hj).1));clear r1 r2 hk1))
 all_goals
  clear c0 c2 c3 c4;go_wp2_with fail;go_ret;exact⟨congrArg (λs=>Ending.returned (.string s)) HT.o,HK3.o⟩
theorem text_any(h:Wt w B p S most V L)(hL:L<=900000000):
 Calls prog 116 #[.pointer (some ⟨p,0,none⟩)] w λe w'=>e=.returned (.string (z1y V L))/\Kept NoB w w':=by
 by_cases h8:L%8=0
 · exact z3x h hL h8
 · exact z4k h hL h8
theorem zcG(h:Wt w B p S most V L)(hL:L<=900000000):
 Calls prog 200 #[.pointer (some ⟨p,0,none⟩)] w λe w'=>e=.returned (.int .i64 L)/\Kept NoB w w':=by
 obtain⟨ao,c,h,hS⟩:=h;refine(z54 h (by omega) (by omega)).mono ?_;rintro e w' ⟨rfl,n,rfl⟩;exact⟨rfl,(Kept.refl _ _).drewN n⟩
