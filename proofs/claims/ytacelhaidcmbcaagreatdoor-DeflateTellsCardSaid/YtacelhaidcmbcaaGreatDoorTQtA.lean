import Derived.Test.YtacelhaidcmbcaaGreatDoorTMMath
import Derived.Deep.OwnRows
import Derived.BigQuiet
import Derived.Deep.QuietTactic
set_option maxHeartbeats 8000000
set_option maxRecDepth 1000000
namespace Go.Proofs.YtacelhaidcmbcaaGreatDoor
open Go.Lib (hid)
open Go.RowKit M
set_option linter.unusedVariables false
structure Wr(w:World)(B p:Nat)(most:Int)(ao:Option Addr)(c k V L:Nat):Prop where
 c0:w.cell? ⟨p,0,none⟩=some (.bool true)
 c1:w.cell? ⟨p,1,none⟩=some (.int .i64 most)
 c2:w.cell? ⟨p,2,none⟩=some (.slice ao k c)
 c3:w.cell? ⟨p,3,none⟩=some (.int .u64 (V/256^k:Nat))
 c4:w.cell? ⟨p,4,none⟩=some (.int .i64 (L - 8*k:Nat))
 fz:∀i,w.frozen? ⟨p,i,none⟩=false
 own:w.ownsRow B 5 1 (.slice ao k c) k ((bys V k).map (Value.int .u8))
 ap:∀a,ao=some a→a.block≠p
 base:B≤p
 val:V<2^L
 ge:8*k≤L
def z20(p:Nat)(ao:Option Addr):Nat→Prop:=fun j=>j=p∨∃a,ao=some a∧j=a.block
def Wt(w:World)(B p:Nat)(S:Nat→Prop)(most:Int)(V L:Nat):Prop:=∃ao c,Wr w B p most ao c (L/8) V L∧∀j,S j↔z20 p ao j
variable {w w':World} {B p k c V L:Nat} {ao:Option Addr} {most:Int} {S T:Nat→Prop}
theorem Wr.lt(h:Wr w B p most ao c k V L):p<w.heap.size:=World.block_lt_of_cell? w _ h.c0
theorem Wr.row(h:Wr w B p most ao c k V L){a:Addr}(ha:ao=some a):B≤a.block∧a.block<w.heap.size:=h.own.lt a.block (by rw[ha];rfl)
theorem Wr.foot_lt(h:Wr w B p most ao c k V L){j:Nat}(hj:z20 p ao j):B≤j∧j<w.heap.size:=by
 rcases hj with rfl|⟨a,ha,rfl⟩
 · exact⟨h.base,h.lt⟩
 · exact h.row ha
theorem Wr.keep(h:Wr w B p most ao c k V L)(hk:Kept T w w')(hT:∀j,z20 p ao j→¬T j):Wr w' B p most ao c k V L:=
 ⟨hk.cell h.c0 (hT p (.inl rfl)),hk.cell h.c1 (hT p (.inl rfl)),hk.cell h.c2 (hT p (.inl rfl)),hk.cell h.c3 (hT p (.inl rfl)),hk.cell h.c4 (hT p (.inl rfl)),
  fun i=>(hk.frozen (a:=⟨p,i,none⟩) h.lt (hT p (.inl rfl))).trans (h.fz i),
  hk.own h.own fun g hg=>hT g (.inr (by
   cases ao with
   |none=>simp[Value.ownBlock] at hg
   |some a=>exact⟨a,rfl,by simpa [Value.ownBlock] using hg.symm⟩)),h.ap,h.base,h.val,h.ge⟩
theorem Wt.keep(h:Wt w B p S most V L)(hk:Kept T w w')(hT:∀j,S j→¬T j):Wt w' B p S most V L:=by
 obtain⟨ao,c,h,hS⟩:=h;exact⟨ao,c,h.keep hk (fun j hj=>hT j ((hS j).2 hj)),hS⟩
theorem Wt.lt(h:Wt w B p S most V L){j:Nat}(hj:S j):B≤j∧j<w.heap.size:=by
 obtain⟨ao,c,h,hS⟩:=h;exact h.foot_lt ((hS j).1 hj)
theorem Wt.self(h:Wt w B p S most V L):S p:=by
 obtain⟨ao,c,h,hS⟩:=h;exact(hS p).2 (.inl rfl)
theorem zeL(w:World)(m:Int)(hB:B≤w.heap.size):
 Wt (w.alloc (.cells #[.bool true,.int .i64 m,.slice none 0 0,.int .u64 0,.int .i64 0] 108)) B w.heap.size (fun j=>j=w.heap.size) m 0 0:=by
 refine⟨none,0,⟨?_,?_,?_,?_,?_,?_,World.ownsRow_nil _ _ _ _,?_,hB,by decide,by decide⟩,fun j=>⟨fun h=> .inl h,fun h=> ?_⟩⟩
 · simp
 · simp
 · simp
 · simp
 · simp
 · intro i;simp
 · intro a ha;cases ha
 · rcases h with h|⟨a,ha,_⟩
   · exact h
   · cases ha
theorem new_any(m:Int)(w:World)(hB:B≤w.heap.size):
 Calls Tryz.prog 20 #[.int .i64 m] w fun e w'=>e=.returned (.pointer (some ⟨w.heap.size,0,none⟩))∧Kept NoB w w'∧Wt w' B w.heap.size (fun j=>j=w.heap.size) (max 0 m) 0 0∧w.heap.size<w'.heap.size:=by
 by_cases hm:0<m
 · have H1:=hid (show max 0 m=m by omega)
   have hm2:0≤m:=by omega
   go_enter Tryz.func20,Tryz.ntmps20;go_wp2;go_ret;exact⟨rfl,(Kept.refl _ _).alloc _,by rw[H1.out];exact zeL w m hB,by simp⟩
 · have H1:=hid (show max 0 m=0 by omega)
   have hm':m≤0:=by omega
   clear hm;go_enter Tryz.func20,Tryz.ntmps20;go_wp2;go_ret;exact⟨rfl,(Kept.refl _ _).alloc _,by rw[H1.out];exact zeL w 0 hB,by simp⟩
theorem z0h(p:Nat)(w:World)(hc:w.cell? ⟨p,0,none⟩=some (.bool true)):
 Calls Tryz.prog 46 #[.pointer (some ⟨p,0,none⟩)] w fun e w'=>e=.returned (.bool true)∧w=w':=by
 go_enter Tryz.func46,Tryz.ntmps46;go_wp2;go_ret;exact⟨rfl,rfl⟩
theorem zb2(N s:Nat)(w:World)(hs:s≤56)(hN:N<2^s):
 Calls Tryz.prog 97 #[.int .u64 N,.int .i64 s] w fun e w'=>e=.returned (.bool true)∧w=w':=by
 have hm:(N:Int)≤(mk s:Int):=by unfold mk;omega
 clear hN;go_enter Tryz.func97,Tryz.ntmps97;go_wp2_with (go_at_call 122;refine(z7Y s _ (by omega)).mono ?_;rintro e w' ⟨rfl,rfl⟩);go_ret;exact⟨rfl,rfl⟩
theorem zhY(n x:Int)(w:World)(h0:0≤n)(h:¬(0≤x∧x≤56∧n.toNat<2^x.toNat)):
 Calls Tryz.prog 97 #[.int .u64 n,.int .i64 x] w fun e w'=>e=.returned (.bool false)∧w=w':=by
 by_cases h1:0≤x
 · by_cases h2:x≤56
   · obtain⟨N,rfl⟩:=Int.eq_ofNat_of_zero_le h0
     obtain⟨s,rfl⟩:=Int.eq_ofNat_of_zero_le h1;rw[Int.toNat_natCast,Int.toNat_natCast] at h;have hp:=Nat.two_pow_pos s;have hm:decide (N≤mk s)=false:=qF (by unfold mk;omega);clear h hp;go_enter Tryz.func97,Tryz.ntmps97;go_wp2_with (go_at_call 122;refine(z7Y s _ (by omega)).mono ?_;rintro e w' ⟨rfl,rfl⟩);go_ret;exact⟨rfl,rfl⟩
   · have h3:decide (x≤56)=false:=qF h2
     clear h h2;go_enter Tryz.func97,Tryz.ntmps97;go_wp2_with fail;go_ret;exact⟨rfl,rfl⟩
 · have h3:x<0:=by omega
   clear h h1;go_enter Tryz.func97,Tryz.ntmps97;go_wp2_with fail;go_ret;exact⟨rfl,rfl⟩
theorem up8(n:Nat)(h:n≤4611686018427387000):up n 8/8=(((n+7) /8:Nat):Int)∧0≤up n 8:=by
 unfold up;by_cases h1:n=0
 · subst h1;decide
 · rw[if_neg (by omega),if_neg (by omega)]
   omega
theorem z7e(n:Nat)(w:World)(h:n≤4611686018427387000):
 Calls Tryz.prog 98 #[.int .i64 n] w fun e w'=>e=.returned (.int .i64 ((n+7) /8:Nat))∧w=w':=by
 have h8:=(up8 n h).2;have H:=hid (up8 n h).1;have hr:=zcz n 8;go_enter Tryz.func98,Tryz.ntmps98;go_wp2_with (go_at_call 123;refine(zhp n 8 _ (by omega) (by omega)).mono ?_;rintro e w' ⟨rfl,rfl⟩);go_ret;exact⟨congrArg (fun z=>Ending.returned (.int .i64 z)) H.out,rfl⟩
theorem z1O(h:Wr w B p most ao c k V L)(hk:k≤1000000000)(hL:L≤1000000000):
 Calls Tryz.prog 68 #[.pointer (some ⟨p,0,none⟩)] w fun e w'=>e=.returned (.int .i64 L)∧∃n,w'=w.drewN n:=by
 have h0:=h.c0;have h2:=h.c2;have h4:=h.c4;have hge:=h.ge;obtain⟨m,hm⟩:∃m,L - 8*k=m:=⟨_,rfl⟩
 rw[hm] at h4;have HL:=hid (show(k:Int)*8+(m:Int)=(L:Int) by omega);have hm2:m≤1000000000:=by omega
 clear h hm hge;go_enter Tryz.func68,Tryz.ntmps68;go_wp2_with (go_at_call 46;refine(z0h p _ h0).mono ?_;rintro e w' ⟨rfl,rfl⟩)
 go_quiet (fail)
 go_wp2;go_ret;exact⟨congrArg (fun z=>Ending.returned (.int .i64 z)) HL.out,_,rfl⟩
end Go.Proofs.YtacelhaidcmbcaaGreatDoor
