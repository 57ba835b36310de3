import Derived.Test.YthgilhebnlglkaaGreatDoorKMQtB
import Derived.WalkSpells
set_option linter.all false
set_option maxHeartbeats 0
set_option maxRecDepth 1000000
open Go.Proofs.Tryz
namespace Go.Proofs.YthgilhebnlglkaaGreatDoor
section
open Go.RowKit M
variable {w w':World} {B p k c V L:Nat} {ao:Option Addr} {most:Int} {S T:Nat->Prop}
theorem jm{w:World}{B n:Nat}{v:Value}{ns:List Int}(h:w.ownsRow B 5 1 v n (ns.map (Value.int .u8))):
 (convert 26 9 v).run prog w=.ok (.string (EP (ns.map λn=>UInt8.ofNat n.toNat))) w:=by
 have a:=h.1;rw[Ah,Bq] at a;rcases h.2 with⟨rfl,o⟩|⟨g,b,m,rfl,r⟩
 · subst o
   obtain rfl:=D3 a;rw[run_convert_bytes_string (P:= prog) w 26 9 5 _ _ _ underlying26 underlying5 underlying9];rfl
 · have l:=h.cellAt
   rw[run_convert_bytes_string (P:= prog) w 26 9 5 _ _ _ underlying26 underlying5 underlying9];have f:=run_loadCells_list (P:= prog) w ⟨g,0,none⟩ (ns.map (Value.int .u8)) (λj v d=>by
    have i:j<n:=by
     have:=(An.1 d).1;rw[Ah] at this;omega
    have:=l j (by omega);rw[d] at this;by_cases e:j=0
    · subst e;simpa [Addr.add] using this
    · simpa [Addr.add,e] using this)
   rw[Ah,a] at f;rw[run_bytesToString (P:= prog) w ⟨g,0,none⟩ n b ns f,qQ];rfl
theorem kY(l:w.ownsRow B 5 1 (.slice ao k c) k ((bys V k).map (Value.int .u8)))(Y:k<=1000000000):
 Calls prog 165 #[.slice ao k c] w λe w'=> ∃h c',e=.returned (.slice h k c')/\w'.ownsRow w.heap.size 5 1 (.slice h k c') k ((bys V k).map (Value.int .u8))/\Kept NoB w w':=by
 obtain⟨Q,hi,z,A,C⟩:=info_parts jg;cases ao with
 |none=>
  obtain⟨F,i⟩:=l;rcases i with⟨i,G⟩|⟨g,cap,y,i,_⟩
  · subst G
    obtain rfl:c=0:=by injection i
    have v:=Lib.run_eql_slice_nil (P:= prog) w 26 5 none 0 0 0 0 underlying26;go_enter func165,ntmps165;go_wp2_with fail;go_ret;exact⟨none,0,rfl,World.ownsRow_nil _ _ _ _,Kept.refl _ _⟩
  · cases i
 |some a=>
  have d:∀g,a.block=g->∀j u,((bys V k).map (Value.int .u8))[j]? =some u->w.cell? ((⟨g,0,none⟩:Addr).add j)=some u:=λg E=>l.cells (g:=g) (by simp[Value.ownBlock,E])
  obtain⟨F,i⟩:=l;rcases i with⟨i,_⟩|⟨g,cap,y,i,G,I,X,h6,U,M⟩
  · cases i
  · obtain⟨rfl,rfl⟩:a=⟨g,0,none⟩/\c=cap:=by
     injection i with s H e3
     injection s with e4
     exact⟨e4,e3⟩
    have N:=qH (d g rfl);have E:=qH I;clear d F i I U M;have v:=Lib.run_eql_slice_nil (P:= prog) w 26 5 (some ⟨g,0,none⟩) k c 0 0 underlying26;go_enter func165,ntmps165;go_wp2_with (at_builtin;refine wpList_append_own _ rfl (.tmp 5) (.tmp 6) 26 rfl w.heap.size 5 Q (.int .u8 0) 1 1 underlying26 hi z A C rfl (by decide) (.slice (some ⟨w.heap.size,0,none⟩) 0 0) 0 [] rfl (World.ownsRow_made w #[] 0 qR (by decide) rfl) ⟨g,0,none⟩ k c ((bys V k).map (Value.int .u8)) rfl ?c1 ?c2 ?c3 ?c4 ?c5 ?c6 ?_)
    case c1=>simp[rn]
    case c2=>exact λj u D=>((Kept.refl NoB w).alloc _).cell (N.o j u D) (λg=>g)
    case c3=>
     intro u D;obtain⟨x,_,rfl⟩:=Ay.1 D;rfl
    case c4=>unfold maxLen;omega
    case c5=>omega
    case c6=>simp
    intro O Z b m q;have r:=((Kept.refl NoB w).alloc (.cells #[] 5)).grown m (λj W=> .inr (CH (by simpa [Value.ownBlock] using W)));have n:∃h c',O=.slice h k c':=by
     rcases b.2 with⟨s,H⟩|⟨g',K,J,s,_⟩
     · exact⟨none,0,by rw[s,H]⟩
     · exact⟨_,_,s⟩
    obtain⟨h,c',rfl⟩:=n;have R:=qH (And.intro b r);clear b r m q v;go_wp2_with fail;go_ret;exact⟨h,c',rfl,R.o.1,R.o.2⟩
theorem gm(h:Wt w B p S most V L)(i:L<=900000000)(b:L%8=0):
 Calls prog 116 #[.pointer (some ⟨p,0,none⟩)] w λe w'=>e=.returned (.string (c7 V L))/\Kept NoB w w':=by
 obtain⟨ao,c,h,g⟩:=h;have c0:=h.c0;have j:=h.c2;have d:=h.c4;rw[show L - 8*(L/8)=0 by omega] at d;have a:=jm h.own;rw[EO,<-pY b] at a;clear h g b;go_enter func116,ntmps116;go_wp2_with (go_at_call 164;refine(aC p _ c0).mono ?_;rintro e w' ⟨rfl,rfl⟩);go_ret;exact⟨rfl,Kept.refl _ _⟩
theorem oo{B n size:Nat}{e:TypeId}{v:Value}{xs:List Value}(h:w.ownsRow B e size v n xs):w.ownsRow 0 e size v n xs:=by
 obtain⟨b,a⟩:=h;refine⟨b,?_⟩;rcases a with a|⟨g,cap,cur,hv,hg,r⟩
 · exact .inl a
 · exact .inr ⟨g,cap,cur,hv,qZ,r⟩
theorem iL(h:Wt w B p S most V L)(hL:L<=900000000)(Z:L%8≠0):
 Calls prog 116 #[.pointer (some ⟨p,0,none⟩)] w λe w'=>e=.returned (.string (c7 V L))/\Kept NoB w w':=by
 obtain⟨i0,hi,H,K,M⟩:=info_parts jg;obtain⟨ao,c,h,hS⟩:=h;have c0:=h.c0;have c2:=h.c2;have Y:=h.c3;have c4:=h.c4;obtain⟨m,hm⟩:∃m,L - 8*(L/8)=m:=⟨_,rfl⟩
 obtain⟨X,hX⟩:∃X,V/256^(L/8)=X:=⟨_,rfl⟩
 obtain⟨k,hk⟩:∃k,L/8=k:=⟨_,rfl⟩
 have Q:=sw (V:=V) Z;have x:=h.own;rw[hm] at c4;rw[hX] at Y Q;rw[hk] at c2 x Q;have a0:((m:Int)==0)=false:=(by rw[qN];omega);have N:k<=1000000000:=(by omega);have J:IntKind.u8.wrap (X:Int)=((X%256:Nat):Int):=(by rw[IntKind.wrap_u8];rfl);have G:EP ((bys V k).map (λn=>UInt8.ofNat n.toNat)++[UInt8.ofNat (IntKind.u8.wrap (X:Int)).toNat])=c7 V L:=(by rw[Q,Aw,J];rfl);obtain⟨HT,HO⟩:=qh2 G x;have hp:=h.lt;clear h hS Z hm hX hk Q x J G;go_enter func116,ntmps116;go_wp2_with (go_at_call 164;refine(aC p _ c0).mono ?_;rintro e w' ⟨rfl,rfl⟩)
 go_region_law (first
  |(refine step_append_lies _ rfl (.tmp 20) (.tmp 26) 26 rfl 0 5 i0 (.int .u8 0) 1 1 underlying26 hi H K M rfl (by decide) (.slice r k c1) k ((bys V k).map (Value.int .u8)) (by simp[Act.eval]) (World.ownsRow.alloc (w:=I) R.o _) ⟨I.heap.size,0,none⟩ 1 1 [.int .u8 (IntKind.u8.wrap (X:Int))] (by simp[Act.eval]) rfl (by intro i u hi;match i,hi with|0,hi=>(simp at hi;subst hi;simp[Addr.add])) (by intro u P;simp at P;subst P;rfl) (by decide) (by unfold maxLen;omega) (by omega) qZ (I.heap.size+1) (by simp) ?_;intro g W w3 d b C q;have y:=jm (ns:=bys V k++[IntKind.u8.wrap (X:Int)]) (by rw[Aw];exact d);have O:=qH ((z.o.alloc _).grown b A.o);clear d b C q)
  |(refine step_append_lies _ rfl (.tmp 20) (.tmp 26) 26 rfl 0 5 i0 (.int .u8 0) 1 1 underlying26 hi H K M rfl (by decide) (.slice r k c1) k ((bys V k).map (Value.int .u8)) (by simp[Act.eval]) R.o ⟨w.heap.size,0,none⟩ 1 1 [.int .u8 (IntKind.u8.wrap (X:Int))] (by simp[Act.eval]) rfl (by intro i u hi;match i,hi with|0,hi=>(simp at hi;subst hi;simpa [Addr.add] using E)) (by intro u P;simp at P;subst P;rfl) (by decide) (by unfold maxLen;omega) (by omega) qZ (I.heap.size) rfl ?_;intro g W w3 d b C q;have y:=jm (ns:=bys V k++[IntKind.u8.wrap (X:Int)]) (by rw[Aw];exact d);have O:=qH (z.o.grown b A.o);clear d b C q)
  |(go_simp;go_at_call 165;refine(kY (B:=B) (V:=V) (w:=w.drew) HO.o N).mono ?_;rintro e I ⟨r,c1,rfl,D,F⟩;have l:=((Kept.refl NoB w).drew).trans F (λ_ g=>g.elim);have e3:=l.cell Y (λg=>g);have R:=qH (oo D);have z:=qH l;have A:Hd (∀j,Value.ownBlock (.slice r k c1)=some j->NoB j\/w.heap.size<=j):=(λj U=> .inr (D.lt j U).1);clear D F l)
  |(go_simp;go_at_call 165;refine(kY (B:=B) (V:=V) (w:=(w.alloc (.cells #[.int .u8 (IntKind.u8.wrap (X:Int))] 5)).drew) (World.ownsRow.alloc HO.o _) N).mono ?_;rintro e I ⟨r,c1,rfl,D,F⟩;have l:=(((Kept.refl NoB w).alloc _).drew).trans F (λ_ g=>g.elim);have E:=F.cell (a:=⟨w.heap.size,0,none⟩) (v:=.int .u8 (IntKind.u8.wrap (X:Int))) (by simp) (λg=>g);have R:=qH (oo D);have z:=qH l;have A:Hd (∀j,Value.ownBlock (.slice r k c1)=some j->NoB j\/w.heap.size<=j):=(λj U=> .inr (qK (by simp) (D.lt j U).1));clear D F l))
 all_goals
  clear c0 c2 Y c4;go_wp2_with fail;go_ret;exact⟨congrArg (λs=>Ending.returned (.string s)) HT.o,O.o⟩
theorem text_any(h:Wt w B p S most V L)(b:L<=900000000):
 Calls prog 116 #[.pointer (some ⟨p,0,none⟩)] w λe w'=>e=.returned (.string (c7 V L))/\Kept NoB w w':=by
 by_cases a:L%8=0
 · exact gm h b a
 · exact iL h b a
theorem nm(h:Wt w B p S most V L)(b:L<=900000000):
 Calls prog 200 #[.pointer (some ⟨p,0,none⟩)] w λe w'=>e=.returned (.int .i64 L)/\Kept NoB w w':=by
 obtain⟨ao,c,h,a⟩:=h;refine(dt h (by omega) (by omega)).mono ?_;rintro e w' ⟨rfl,n,rfl⟩;exact⟨rfl,(Kept.refl _ _).drewN n⟩
