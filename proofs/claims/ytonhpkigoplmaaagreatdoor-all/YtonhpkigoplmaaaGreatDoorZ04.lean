import Derived.Test.YtonhpkigoplmaaaGreatDoorZ02
import Derived.Test.YtonhpkigoplmaaaGreatDoorZ03
import Derived.BigRegion
import Derived.Deep.Slices
import Derived.Lib.SmallJoins
import Derived.ProofKit
import Derived.OpenShut
set_option maxRecDepth 100000
set_option maxHeartbeats 40000000
namespace Go.Proofs.YtonhpkigoplmaaaGreatDoor
section
open Go.RowKit Go.Extern
theorem oU (b:Nat) (w:World):(MathFloatBits.float64bits #[fV b]).run Tryz.prog w= .ok (nV b) w:=by kernel_rfl
theorem iH (b:Nat) (w:World):(MathFloatBits.float64frombits #[nV b]).run Tryz.prog w= .ok (fV b) w:=by kernel_rfl
theorem Ef (b:Nat) (hb:b<18446744073709551616):bits .andNot .u64 (b:Int) 9223372036854775808=((b % 9223372036854775808:Nat):Int):=by
 have h:=u64_andNot_nat b 9223372036854775808 hb (by decide);have e2:((9223372036854775808:Nat):Int)=9223372036854775808:=rfl;rw[e2] at h;rw[h];have e3:18446744073709551615-9223372036854775808=9223372036854775807:=by decide
 rw[e3];have:b &&& 9223372036854775807=b % 9223372036854775808:=Nat.and_two_pow_sub_one_eq_mod _ 63;rw[this]
theorem ka (b:Nat) (w:World):ax 56 #[nV b] w fun e w'=>e= .returned (fV b)∧w'=w:=by
 have h93:=@run_callFunc_extern Tryz.prog 113 _ MathFloatBits.float64frombits Tryz.func113 (by kernel_rfl) (by kernel_rfl) (by kernel_rfl) (by kernel_rfl);have cf:=iH;go_enter Tryz.func56,Tryz.ntmps56;go_wp2
 go_ret
 exact⟨rfl,rfl⟩
theorem jN (b:Nat) (w:World) (hb:b<18446744073709551616):ax 160 #[fV b] w fun e w'=>e= .returned (fV (b % 9223372036854775808))∧w'=w:=by
 have h89:=@run_callFunc_extern Tryz.prog 99 _ MathFloatBits.float64bits Tryz.func99 (by kernel_rfl) (by kernel_rfl) (by kernel_rfl) (by kernel_rfl);have h93:=@run_callFunc_extern Tryz.prog 113 _ MathFloatBits.float64frombits Tryz.func113 (by kernel_rfl) (by kernel_rfl) (by kernel_rfl) (by kernel_rfl);have cb:=oU;have ha:=Ef b hb;have cf:=iH (b % 9223372036854775808);generalize hr:b % 9223372036854775808=r at*;clear hr hb;go_enter Tryz.func160,Tryz.ntmps160;go_wp2
 go_ret
 exact⟨rfl,rfl⟩
theorem fG (b:Nat) (w:World) (hb:b<18446744073709551616):ax 112 #[fV b] w fun e w'=>e= .returned (.bool (au b).isSome)∧w'=w:=by
 have hp:=xP hb;rw[←hp];have HA:=hid (jN b w hb);clear hp hb;generalize b % 9223372036854775808=r at*
 have HP:∀b0 b1 b2,(FloatKind.f64.format.order r 0==some Ordering.eq)=b0→(FloatKind.f64.format.order r 553942754166571008==some Ordering.gt||FloatKind.f64.format.order r 553942754166571008==some Ordering.eq)=b1→(FloatKind.f64.format.order r 8660422083433463808==some Ordering.lt||FloatKind.f64.format.order r 8660422083433463808==some Ordering.eq)=b2→Hid (qA r=(b0||(b1 && b2))):=by
  intro b0 b1 b2 h0 h1 h2;subst h0 h1 h2
  rfl
 generalize hb0:(FloatKind.f64.format.order r 0==some Ordering.eq)=b0 at*;generalize hb1:(FloatKind.f64.format.order r 553942754166571008==some Ordering.gt||FloatKind.f64.format.order r 553942754166571008==some Ordering.eq)=b1 at*;generalize hb2:(FloatKind.f64.format.order r 8660422083433463808==some Ordering.lt||FloatKind.f64.format.order r 8660422083433463808==some Ordering.eq)=b2 at*;have HP:=HP b0 b1 b2 rfl rfl rfl
 cases b0<;>cases b1<;>cases b2
 all_goals
  go_enter Tryz.func112,Tryz.ntmps112;go_wp2_with fail;refine Calls.mono HA.out ?_;rintro e w' ⟨rfl,rfl⟩;clear HA;go_wp2
  go_ret
  rw[HP.out];exact⟨rfl,rfl⟩
def posW (b:Nat):Nat:=if b % 9223372036854775808=0 then 0 else b
theorem uL {b:Nat} (hb:b<18446744073709551616) (hp:(au b).isSome=true):(FloatKind.f64.format.order b 0==some Ordering.eq)=decide (b % 9223372036854775808=0):=by
 obtain⟨⟨s,n,e⟩,h⟩:=Option.isSome_iff_exists.1 hp
 show(Ieee.double.order b 0==some Ordering.eq)=_
 unfold Ieee.Format.order;have h0:Ieee.double.read 0= .number false 0 (-1074):=rfl;rw[h0];rcases fp hb h with⟨rfl,rfl,hz,s',hr⟩|⟨hn,hr⟩
 ·rw[hr];simp only[Ieee.Datum.order,c9,Nat.zero_mul,i6,hz];rw[cR rfl];rfl
 ·rw[hr];simp only[Ieee.Datum.order,c9,Nat.zero_mul,i6]
  have hne:b % 9223372036854775808≠0:=by
   intro hz
   have:au b=some (false,0,0):=by
    unfold au;rw[if_pos (by omega)]
   rw[this] at h;simp at h;omega
  have hpos:0<n*2^(e-min e (-1074)).toNat:=Nat.mul_pos hn (Nat.two_pow_pos _);generalize n*2^(e-min e (-1074)).toNat=m at*
  cases s
  ·rw[bJ (by simp[sg];omega)];simp[hne]
  ·rw[bX (by simp[sg];omega)];simp[hne]
theorem iD (b:Nat) (w:World) (hb:b<18446744073709551616) (hp:(au b).isSome=true):ax 87 #[fV b] w fun e w'=>e= .returned (fV (posW b))∧w'=w:=by
 have he:=uL hb hp;clear hp hb;by_cases hz:b % 9223372036854775808=0
 ·have r:posW b=0:=by unfold posW;rw[if_pos hz]
  rw[r];rw[decide_eq_true hz] at he;clear hz r;go_enter Tryz.func87,Tryz.ntmps87;go_wp2
  go_ret
  exact⟨rfl,rfl⟩
 ·have r:posW b=b:=by unfold posW;rw[if_neg hz]
  rw[r];rw[decide_eq_false hz] at he;clear hz r;go_enter Tryz.func87,Tryz.ntmps87;go_wp2
  go_ret
  exact⟨rfl,rfl⟩
end
section
open Go.RowKit Go.Extern
theorem av {P:Program} {w:World} {a:Addr} {m:Mode} (k:FloatKind) (b:Nat):(store a (.float k b) m).run P w=stored P w a (.float k b) m:=run_store P w a _ m rfl
attribute [local go_sem] av
def iK (a b:Nat):Bool:=
 kF ((au a).getD (false,0,0)).1 ((au a).getD (false,0,0)).2.1 ((au a).getD (false,0,0)).2.2 ((au b).getD (false,0,0)).1 ((au b).getD (false,0,0)).2.1 ((au b).getD (false,0,0)).2.2
def makeN (lo hi:Nat):Nat×Nat×Nat:=
 if(au lo).isSome=false∨(au hi).isSome=false then(0,0,1)
 else if iK hi lo=true then(0,0,2)
 else(posW lo,posW hi,0)
def m8 (A:Nat→Addr) (k:Nat):Value:=if k=0 then .nilIface else .iface 229 (.pointer (some (A (k-1))))
theorem x7 {lo hi:Nat} (h1:lo<18446744073709551616) (h2:hi<18446744073709551616) (p1:(au lo).isSome=true) (p2:(au hi).isSome=true):(FloatKind.f64.format.order lo hi==some Ordering.gt)=iK hi lo:=by
 obtain⟨⟨sa,na,ea⟩,ha⟩:=Option.isSome_iff_exists.1 p1;obtain⟨⟨sb,nb,eb⟩,hb⟩:=Option.isSome_iff_exists.1 p2;have:=xR h1 h2 ha hb;unfold iK;rw[ha,hb];exact this
def kJ (A:Nat→Addr) (lo hi:Nat) (w:World) (ev:Ending) (w':World):Prop:=
 ev= .returned (.tuple #[.agg #[fV (makeN lo hi).1,fV (makeN lo hi).2.1],m8 A (makeN lo hi).2.2])∧Below w.heap.size w w'
theorem iT (A:Nat→Addr) (lo hi:Nat) (w:World) (h1:lo<18446744073709551616) (h2:hi<18446744073709551616) (hS:aE A w):
  ax 55 #[fV lo,fV hi] w fun ev w'=>kJ A lo hi w ev w':=by
 have H1:Hid (∀w,ax 112 #[fV lo] w fun e w'=>e= .returned (.bool (au lo).isSome)∧w'=w):=fun w=>fG lo w h1
 have H2:Hid (∀w,ax 112 #[fV hi] w fun e w'=>e= .returned (.bool (au hi).isSome)∧w'=w):=fun w=>fG hi w h2
 have cf:∀o,(w.alloc o).cell? ⟨3,0,none⟩=some (aL (A 0)):=fun o=>(hS.alloc o).cell 0 (by omega)
 have co:∀o,(w.alloc o).cell? ⟨4,0,none⟩=some (aL (A 1)):=fun o=>(hS.alloc o).cell 1 (by omega)
 clear hS
 cases p1:(au lo).isSome
 ·have r:Hid (makeN lo hi=(0,0,1)):=by show _=_;unfold makeN;rw[if_pos (Or.inl p1)]
  rw[p1] at H1;clear p1;go_enter Tryz.func55,Tryz.ntmps55;go_wp2_with fail;refine (H1.out _).mono ?_;rintro e w' ⟨rfl,rfl⟩;clear H1 H2;go_wp2_with fail;go_region;go_wp2;refine bodyPost_ret (v:= .tuple #[gF 0 0,aL (A 0)]) (by simp[results,Tryz.results55,go_sem]) rfl ?_;unfold kJ;rw[r.out];exact⟨rfl,aJ.drew⟩
 ·cases p2:(au hi).isSome
  ·have r:Hid (makeN lo hi=(0,0,1)):=by show _=_;unfold makeN;rw[if_pos (Or.inr p2)]
   rw[p1] at H1;rw[p2] at H2;clear p1 p2;go_enter Tryz.func55,Tryz.ntmps55;go_wp2_with fail;refine (H1.out _).mono ?_;rintro e w' ⟨rfl,rfl⟩;clear H1;go_wp2_with fail;refine (H2.out _).mono ?_;rintro e w' ⟨rfl,rfl⟩;clear H2;go_wp2_with fail;go_region;go_wp2;refine bodyPost_ret (v:= .tuple #[gF 0 0,aL (A 0)]) (by simp[results,Tryz.results55,go_sem]) rfl ?_;unfold kJ;rw[r.out];exact⟨rfl,aJ.drew⟩
  ·have ho:=x7 h1 h2 p1 p2;have O1:Hid (∀w,ax 87 #[fV lo] w fun e w'=>e= .returned (fV (posW lo))∧w'=w):=fun w=>iD lo w h1 p1
   have O2:Hid (∀w,ax 87 #[fV hi] w fun e w'=>e= .returned (fV (posW hi))∧w'=w):=fun w=>iD hi w h2 p2
   have P1:=hid p1;have P2:=hid p2;rw[p1] at H1;rw[p2] at H2;clear p1 p2
   cases hl:iK hi lo
   ·have r:Hid (makeN lo hi=(posW lo,posW hi,0)):=by show _=_;unfold makeN;rw[if_neg (by rw[P1.out,P2.out];simp),if_neg (by rw[hl];simp)]
    rw[hl] at ho;clear hl P1 P2;go_enter Tryz.func55,Tryz.ntmps55;go_wp2_with fail;refine (H1.out _).mono ?_;rintro e w' ⟨rfl,rfl⟩;clear H1;go_wp2_with fail;refine (H2.out _).mono ?_;rintro e w' ⟨rfl,rfl⟩;clear H2;go_wp2_with fail;refine (O1.out _).mono ?_;rintro e w' ⟨rfl,rfl⟩;clear O1;go_wp2_with fail;refine (O2.out _).mono ?_;rintro e w' ⟨rfl,rfl⟩;clear O2;go_wp2;refine bodyPost_ret (v:= .tuple #[.agg #[fV (posW lo),fV (posW hi)],.nilIface]) (by simp[results,Tryz.results55,go_sem]) rfl ?_;unfold kJ;rw[r.out];exact⟨rfl,aK.alloc ae _⟩
   ·have r:Hid (makeN lo hi=(0,0,2)):=by show _=_;unfold makeN;rw[if_neg (by rw[P1.out,P2.out];simp),if_pos hl]
    rw[hl] at ho;clear hl P1 P2 O1 O2;go_enter Tryz.func55,Tryz.ntmps55;go_wp2_with fail;refine (H1.out _).mono ?_;rintro e w' ⟨rfl,rfl⟩;clear H1;go_wp2_with fail;refine (H2.out _).mono ?_;rintro e w' ⟨rfl,rfl⟩;clear H2;go_wp2_with fail;go_region;go_wp2;refine bodyPost_ret (v:= .tuple #[gF 0 0,aL (A 1)]) (by simp[results,Tryz.results55,go_sem]) rfl ?_;unfold kJ;rw[r.out];exact⟨rfl,aJ.drew⟩
end
section
open Go.RowKit Go.Extern
attribute [local go_sem] av
theorem aj {W:World} {g:Nat} {a b:Value} {t:TypeId} (h:W.heap[g]?=some (.cells #[a,b] t (0,0))):
  W.cell? ⟨g,0,none⟩=some a∧W.cell? ⟨g,1,none⟩=some b∧W.frozen? ⟨g,0,none⟩=false∧W.frozen? ⟨g,1,none⟩=false:=
 ⟨by simp[World.cell?,h],by simp[World.cell?,h],by simp[World.frozen?,h],by simp[World.frozen?,h]⟩
theorem GW (x y:Nat) (w:World):aw 100 #[gF x y] w (fV x):=by
 go_enter Tryz.func100,Tryz.ntmps100;go_wp2
 go_ret
 exact⟨rfl,aK.alloc ae _⟩
theorem G0 (x y:Nat) (w:World):aw 101 #[gF x y] w (fV y):=by
 go_enter Tryz.func101,Tryz.ntmps101;go_wp2
 go_ret
 exact⟨rfl,aK.alloc ae _⟩
theorem gR (x y:Nat) (w:World):aw 50 #[gF x y] w (gU x y):=by
 have h89:=@run_callFunc_extern Tryz.prog 99 _ MathFloatBits.float64bits Tryz.func99 (by kernel_rfl) (by kernel_rfl) (by kernel_rfl) (by kernel_rfl);have cb:=oU;go_enter Tryz.func50,Tryz.ntmps50;go_wp2_with fail;have B0:=ai (af w (.cells #[fV x,fV y] 67)) (.cells #[uV 0,uV 0] 33);have B1:=af (w.alloc (.cells #[fV x,fV y] 67)) (.cells #[uV 0,uV 0] 33)
 have hW:Below w.heap.size w ((w.alloc (.cells #[fV x,fV y] 67)).alloc (.cells #[uV 0,uV 0] 33)):=
  aJ.alloc (by simp) _
 simp only[World.size_alloc] at B1;generalize((w.alloc (.cells #[fV x,fV y] 67)).alloc (.cells #[uV 0,uV 0] 33))=W2 at*;obtain⟨k00,k01,-,-⟩:=aj B0;obtain⟨k10,k11,k12,k13⟩:=aj B1;have HB0:=hid B0;have HB1:=hid B1;have HW:=hid hW;clear B0 B1 hW
 go_region_held3 (fun W=>W.cell? ⟨w.heap.size,0,none⟩=some (.float .f64 x)∧W.cell? ⟨w.heap.size,1,none⟩=some (.float .f64 y)) (first|(go_keep;done)|(refine⟨?_,?_⟩<;>first|(go_keep;done)|(rw[aS (by omega),aS (by omega)];assumption)))
  (first
    |(go_at_call 100;refine(GW x y _).mono ?_;rintro e w3 ⟨rfl,hb3⟩;have HB3:Hid (Below _ _ w3):=hb3;obtain⟨k00,k01,-,-⟩:=aj (aa (show(W2.drew).heap[w.heap.size]?=_ from HB0.out) hb3);obtain⟨k10,k11,k12,k13⟩:=aj (aa (show(W2.drew).heap[w.heap.size+1]?=_ from HB1.out) hb3);clear hb3)
    |(go_at_call 101;refine(G0 x y _).mono ?_;rintro e w4 ⟨rfl,hb4⟩;have HB4:Hid (Below _ _ w4):=hb4;obtain⟨k00,k01,-,-⟩:=aj (aa (aa (show(W2.drew).heap[w.heap.size]?=_ from HB0.out) HB3.out) hb4);obtain⟨k10,k11,k12,k13⟩:=aj (aa (aa (show(W2.drew).heap[w.heap.size+1]?=_ from HB1.out) HB3.out) hb4);clear hb4))
 have hbz:Below w.heap.size w w4:=by
  have h0:=HW.out.size;have h3:=HB3.out;have h4:=HB4.out;have h5:=HW.out.drew;exact(h5.trans (h3.mono (by show _≤W2.heap.size;omega))).trans (h4.mono (by have:=h3.size;have e:W2.drew.heap.size=W2.heap.size:=rfl;omega))
 clear HB3 HB4 HW HB0 HB1;go_wp2;refine bodyPost_ret (v:=gU x y) (by simp[results,Tryz.results50,go_sem,k10,k11]) rfl ⟨rfl,?_⟩;exact(hbz.setCell (by simp) _).setCell (by simp) _
theorem aA {W:World} {g:Nat} {a b a' b':Value} {t:TypeId} (h:W.heap[g]?=some (.cells #[a',b'] t (0,0))):
  ((W.setCell ⟨g,0,none⟩ a).setCell ⟨g,1,none⟩ b).heap[g]?=some (.cells #[a,b] t (0,0)):=by
 have:=heap_setCell_same _ g 1 _ t b (heap_setCell_same W g 0 _ t a h);simpa using this
theorem tK (A:Nat→Addr) (k:Nat) (w:World) (hk:k≤9) (hS:aE A w):
  aw 49 #[m8 A k] w (.tuple #[iV (k:Int),.string ⟨#[]⟩]):=by
 unfold m8;by_cases h:k=0
 ·subst h;rw[if_pos rfl];refine(m7 w).mono ?_;rintro e w' ⟨rfl,rfl⟩;exact⟨rfl,Below.refl _ _⟩
 ·rw[if_neg h];refine(ut A w (k-1) (by omega) hS).mono ?_;rintro e w' ⟨rfl,hb⟩;exact⟨by rw[show k-1+1=k by omega],hb⟩
theorem uD (A:Nat→Addr) (lo hi:Nat) (w:World) (h1:lo<18446744073709551616) (h2:hi<18446744073709551616) (hS:aE A w):
  aw 25 #[gU lo hi] w (.tuple #[.agg #[uV ((makeN lo hi).1:Int),uV ((makeN lo hi).2.1:Int)],iV ((makeN lo hi).2.2:Int)]):=by
 have H1:=hid h1;have H2:=hid h2;clear h1 h2;go_enter Tryz.func25,Tryz.ntmps25;go_wp2_with fail;have B0:=ai (af w (.cells #[uV lo,uV hi] 33)) (.cells #[uV 0,uV 0] 33);have B1:=af (w.alloc (.cells #[uV lo,uV hi] 33)) (.cells #[uV 0,uV 0] 33)
 have hW:Below w.heap.size w ((w.alloc (.cells #[uV lo,uV hi] 33)).alloc (.cells #[uV 0,uV 0] 33)):=
  aJ.alloc (by simp) _
 simp only[World.size_alloc] at B1;generalize((w.alloc (.cells #[uV lo,uV hi] 33)).alloc (.cells #[uV 0,uV 0] 33))=W2 at*;obtain⟨k00,k01,-,-⟩:=aj B0;have HB0:=hid B0;have HB1:=hid B1;have HW:=hid hW;have HS2:=hid (hS.below hW ae);have hz:=(Array.getElem?_eq_some_iff.1 B1).1;clear B0 B1 hW hS;generalize hmk:makeN lo hi=r at*;have HMK:=hid hmk;clear hmk;obtain⟨rl,rh,rk⟩:=r
 have hrk:Hid (rk≤2):=by
  show rk≤2
  have:=HMK.out;unfold makeN at this;split at this
  ·simp at this;omega
  ·split at this<;>simp at this<;>omega
 go_region_held3 (fun W=>W.cell? ⟨w.heap.size,0,none⟩=some (.int .u64 (lo:Int))∧W.cell? ⟨w.heap.size,1,none⟩=some (.int .u64 (hi:Int))) (first|(go_keep;done)|(refine⟨?_,?_⟩<;>first|(go_keep;done)|(rw[aS (by omega),aS (by omega)];assumption)))
  (first
    |(go_at_call_of 56 (Value.int IntKind.u64 (lo:Int));refine(ka lo _).mono ?_;rintro e w3 ⟨rfl,rfl⟩)
    |(go_at_call_of 56 (Value.int IntKind.u64 (hi:Int));refine(ka hi _).mono ?_;rintro e w3 ⟨rfl,rfl⟩)
    |(go_at_call 55;refine(iT A lo hi _ H1.out H2.out ?_).mono ?_;exact HS2.out.below (aK.drew) ae;rintro e w4 ⟨rfl,hb4⟩;rw[HMK.out];dsimp only;have HB5:Hid (Below W2.heap.size W2 w4):=(Below.refl _ W2).drew.trans (hb4.mono ae);obtain⟨k00,k01,-,-⟩:=aj (aa HB0.out HB5.out);clear hb4)
    |(go_at_call 55;refine(iT A lo hi _ H1.out H2.out ?_).mono ?_;exact HS2.out.below (aJ.drew) ae;rintro e w4 ⟨rfl,hb4⟩;rw[HMK.out];dsimp only;have HB5:Hid (Below W2.heap.size W2 w4):=(((Below.refl _ W2).alloc ae _).drew).trans (hb4.mono (by simp));obtain⟨k00,k01,-,-⟩:=aj (aa HB0.out HB5.out);have HQ:Hid (w4.heap[W2.heap.size]?=some (.cells #[fV 0,fV 0] 67 (0,0))):=aa (show(World.drew (W2.alloc _)).heap[W2.heap.size]?=_ from af W2 _) hb4;obtain⟨kq0,kq1,kq2,kq3⟩:=aj HQ.out;clear hb4))
 all_goals
  first
  |(have hbw:=(HB5.out.setCell (p:=⟨W2.heap.size,0,none⟩) ae (fV rl)).setCell (p:=⟨W2.heap.size,1,none⟩) ae (fV rh)
    have B5:=aA (a:=fV rl) (b:=fV rh) HQ.out;clear HQ kq0 kq1 kq2 kq3 k00 k01;generalize(w4.setCell {block:=W2.heap.size,off:=0} (Value.float FloatKind.f64 rl)).setCell {block:=W2.heap.size,off:=1} (Value.float FloatKind.f64 rh)=W5 at*)
  |(have hbw:=HB5.out.alloc HB5.out.size (.cells #[fV rl,fV rh] 67)
    have B5:=af w4 (.cells #[fV rl,fV rh] 67);clear k00 k01;generalize(w4.alloc (.cells #[fV rl,fV rh] 67))=W5 at*)
 all_goals
  have hS5:=HS2.out.below hbw ae;have B6:=aa HB1.out hbw;have hb6:=HW.out.trans (hbw.mono HW.out.size);have HB6:=hid B6;have HB7:=hid B5;have Hb6:=hid hb6;have HS5:=hid hS5;clear hbw B5 B6 hb6 hS5 HB0 HB1 HW HS2 HB5;go_wp2_with fail;refine(tK A rk _ (by have:=hrk.out;omega) HS5.out).mono ?_;rintro e w6 ⟨rfl,hb7⟩;obtain⟨kg0,kg1,-,-⟩:=aj (aa HB7.out hb7);have B8:=aa HB6.out hb7;have hb8:=Hb6.out.trans (hb7.mono Hb6.out.size);have HB8:=hid B8;have Hb8:=hid hb8;clear hb7 HB7 HB6 Hb6 HS5 B8 hb8;go_wp2_with fail;refine(gR rl rh _).mono ?_;rintro e w7 ⟨rfl,hb9⟩;obtain⟨k10,k11,k12,k13⟩:=aj (aa HB8.out hb9);have hb10:=Hb8.out.trans (hb9.mono Hb8.out.size);clear hb9 HB8 Hb8 kg0 kg1;go_wp2;refine bodyPost_ret (v:= .tuple #[gU rl rh,iV (rk:Int)]) (by simp[results,Tryz.results25,go_sem,k10,k11]) rfl ?_;rw[HMK.out];exact⟨rfl,(hb10.setCell (by simp) _).setCell (by simp) _⟩
end
section
open Go.RowKit
theorem F7 {b:Nat} (hb:b<18446744073709551616):posW b=if b=9223372036854775808 then 0 else b:=by
 unfold posW;split<;>split<;>omega
theorem lI (b:Nat) (w:World) (hb:b<18446744073709551616):ax 59 #[nV b] w fun e w'=>e= .returned (uV (posW b:Int))∧w'=w:=by
 rw[F7 hb];clear hb;by_cases h:b=9223372036854775808
 ·subst h;rw[if_pos rfl];go_enter Tryz.func59,Tryz.ntmps59;go_wp2
  go_ret
  exact⟨rfl,rfl⟩
 ·rw[if_neg h];have h1:((b:Int)==9223372036854775808)=false:=by simp;omega
  clear h;go_enter Tryz.func59,Tryz.ntmps59;go_wp2
  go_ret
  exact⟨rfl,rfl⟩
theorem nZ {b:Nat} (x:ap) (h:x=(au b).getD (false,0,0)):(digits x.2.1).length≤400000∧-400000≤x.2.2∧x.2.2≤400000:=by
 have hz:(digits 0).length=0:=rfl;subst h;unfold au;split
 ·simp[hz]
 ·split
  ·simp[hz]
  ·rename_i h1 h2
   simp only[Option.getD_some];have:=jh (n:=b % 4503599627370496+4503599627370496) (k:=54) (by omega);omega
theorem jS (lo hi:Nat) (w:World) (h1:lo<18446744073709551616) (h2:hi<18446744073709551616):
  aw 27 #[gU lo hi] w (.tuple #[.agg #[uV ((makeN lo hi).1:Int),uV ((makeN lo hi).2.1:Int)],iV ((makeN lo hi).2.2:Int)]):=by
 have H1:=hid h1;have H2:=hid h2;clear h1 h2;have HR:Hid (makeN lo hi=if(au lo).isSome=false∨(au hi).isSome=false then(0,0,1) else if iK hi lo=true then(0,0,2) else(posW lo,posW hi,0)):=rfl;have HL:Hid (iK hi lo=kF ((au hi).getD (false,0,0)).1 ((au hi).getD (false,0,0)).2.1 ((au hi).getD (false,0,0)).2.2 ((au lo).getD (false,0,0)).1 ((au lo).getD (false,0,0)).2.1 ((au lo).getD (false,0,0)).2.2):=rfl;go_enter Tryz.func27,Tryz.ntmps27;go_wp2_with fail
 have hW:Below w.heap.size w ((w.alloc (.cells #[uV lo,uV hi] 28)).alloc (.cells #[uV 0,uV 0] 28)):=
  aJ.alloc (by simp) _
 refine(gv lo _ H1.out).mono ?_;rintro e w1 ⟨x1,rfl,hX1,hb1⟩;have B0:=aa (ai (af w (.cells #[uV lo,uV hi] 28)) _) hb1;have B1:=aa (af (w.alloc (.cells #[uV lo,uV hi] 28)) _) hb1;simp only[World.size_alloc] at B1;have hbA:=hW.trans (hb1.mono hW.size);obtain⟨q1,q2,q3⟩:=nZ (b:=lo) _ rfl;generalize(au lo).getD (false,0,0)=X1 at*;generalize(au lo).isSome=ok1 at*;obtain⟨s1,n1,e1⟩:=X1;obtain⟨ao1,la1,ca1,rfl,hl1,hN1⟩:=hX1;simp only at hl1 hN1 q1 q2 q3;have HQ1:Hid ((digits n1).length≤400000∧-400000≤e1∧e1≤400000):=⟨q1,q2,q3⟩;have HL1:=hid hl1;obtain⟨k00,k01,-,-⟩:=aj B0;have hz1:=(Array.getElem?_eq_some_iff.1 B1).1;have hz0:w.heap.size<w1.heap.size:=by omega
 clear hW hb1 hl1 q1 q2 q3;go_wp2_with fail;refine(gv hi _ H2.out).mono ?_;rintro e w2 ⟨x2,rfl,hX2,hb2⟩;have hA1:Below w1.heap.size w1 (w1.alloc (.cells #[.bool s1,.slice ao1 la1 ca1,iV e1] 92)):=aK.alloc ae _;have B0:=aa (aa B0 hA1) hb2;have B1:=aa (aa B1 hA1) hb2;have BN1:=aa (af w1 (.cells #[.bool s1,.slice ao1 la1 ca1,iV e1] 92)) hb2;have hN1:=(hN1.below hA1 ae).below hb2 ae;have hbB:=(hbA.alloc hbA.size _).trans (hb2.mono (by have:=hbA.size;simp;omega));obtain⟨q1,q2,q3⟩:=nZ (b:=hi) _ rfl;generalize(au hi).getD (false,0,0)=X2 at*;generalize(au hi).isSome=ok2 at*;obtain⟨s2,n2,e2⟩:=X2;obtain⟨ao2,la2,ca2,rfl,hl2,hN2⟩:=hX2;simp only at hl2 hN2 q1 q2 q3;have HQ2:Hid ((digits n2).length≤400000∧-400000≤e2∧e2≤400000):=⟨q1,q2,q3⟩;have HL2:=hid hl2;obtain⟨j00,j01,-,-⟩:=aj B0;obtain⟨j10,j11,j12,j13⟩:=aj B1;obtain⟨m0,m1,m2,-,-,-⟩:=aB BN1;have HB0:=hid B0;have HB1:=hid B1;have HN1:=hid hN1;have HN2:=hid hN2;have HbB:=hid hbB;have hz2:=(Array.getElem?_eq_some_iff.1 BN1).1;have hz3:w.heap.size<w2.heap.size:=by omega
 have hz4:w.heap.size+1<w2.heap.size:=by omega
 clear hA1 hb2 hl2 q1 q2 q3 B0 B1 BN1 hN1 hN2 hbA hbB k00 k01
 cases ok1
 ·have r:Hid (makeN lo hi=(0,0,1)):=by show _=_;rw[HR.out,if_pos (Or.inl rfl)]
  clear HR HL;go_wp2;obtain⟨c10,c11,-,-⟩:=aj (ai (aA (a:=uV 0) (b:=uV 0) HB1.out) (.cells #[.bool s2,.slice ao2 la2 ca2,iV e2] 92));refine bodyPost_ret (v:= .tuple #[.agg #[uV 0,uV 0],iV 1]) (by simp[results,Tryz.results27,go_sem,c10,c11]) rfl ?_;rw[r.out];exact⟨rfl,((HbB.out.setCell (by simp) _).setCell (by simp) _).alloc (by have:=HbB.out.size;simpa using this) _⟩
 ·cases ok2
  ·have r:Hid (makeN lo hi=(0,0,1)):=by show _=_;rw[HR.out,if_pos (Or.inr rfl)]
   clear HR HL;go_wp2;obtain⟨c10,c11,-,-⟩:=aj (ai (aA (a:=uV 0) (b:=uV 0) HB1.out) (.cells #[.bool s2,.slice ao2 la2 ca2,iV e2] 92));refine bodyPost_ret (v:= .tuple #[.agg #[uV 0,uV 0],iV 1]) (by simp[results,Tryz.results27,go_sem,c10,c11]) rfl ?_;rw[r.out];exact⟨rfl,((HbB.out.setCell (by simp) _).setCell (by simp) _).alloc (by have:=HbB.out.size;simpa using this) _⟩
  ·have hA2:Below w2.heap.size w2 (w2.alloc (.cells #[.bool s2,.slice ao2 la2 ca2,iV e2] 92)):=aK.alloc ae _;have HN1':Hid (aM (w2.alloc (.cells #[.bool s2,.slice ao2 la2 ca2,iV e2] 92)) (.agg #[.bool s1,.slice ao1 la1 ca1,iV e1]) s1 n1 e1):=⟨_,_,_,rfl,HL1.out,HN1.out.below hA2 ae⟩;have HN2':Hid (aM (w2.alloc (.cells #[.bool s2,.slice ao2 la2 ca2,iV e2] 92)) (.agg #[.bool s2,.slice ao2 la2 ca2,iV e2]) s2 n2 e2):=⟨_,_,_,rfl,HL2.out,HN2.out.below hA2 ae⟩;have HB0:=hid (aa HB0.out hA2);have HB1:=hid (aa HB1.out hA2);have HbC:=hid (HbB.out.alloc HbB.out.size (.cells #[.bool s2,.slice ao2 la2 ca2,iV e2] 92));clear hA2 HN1 HN2 HbB;go_wp2_with fail;refine(kR _ _ s2 s1 n2 n1 e2 e1 _ HN2'.out HN1'.out HQ2.out.1 HQ1.out.1 HQ2.out.2.1 HQ2.out.2.2 HQ1.out.2.1 HQ1.out.2.2).mono ?_;rintro e w3 ⟨rfl,hb3⟩;have hlw:=HL.out.symm;rw[hlw];have B0:=aa HB0.out hb3;have B1:=aa HB1.out hb3;have HbD:=hid (HbC.out.trans (hb3.mono HbC.out.size));clear hb3 hlw HbC HB0 HB1 HN1' HN2' j00 j01 j10 j11 j12 j13 m0 m1 m2 hz0 hz1 hz2 hz3 hz4 HQ1 HQ2 HL1 HL2 HL;obtain⟨k00,k01,-,-⟩:=aj B0;obtain⟨k10,k11,k12,k13⟩:=aj B1;have HB1:=hid B1;clear B0 B1
   cases hlt:iK hi lo
   ·have r:Hid (makeN lo hi=(posW lo,posW hi,0)):=by show _=_;rw[HR.out,if_neg (by simp),if_neg (by rw[hlt];simp)]
    clear HR hlt;go_wp2_with fail
    go_region_held3 (fun W=>W.cell? ⟨w.heap.size,0,none⟩=some (.int .u64 (lo:Int))∧W.cell? ⟨w.heap.size,1,none⟩=some (.int .u64 (hi:Int))) (first|(go_keep;done)|(refine⟨?_,?_⟩<;>first|(go_keep;done)|(rw[aS (by omega),aS (by omega)];assumption)))
     (first
       |(go_at_call_of 59 (Value.int IntKind.u64 (lo:Int));refine(lI lo _ H1.out).mono ?_;rintro e w4 ⟨rfl,rfl⟩)
       |(go_at_call_of 59 (Value.int IntKind.u64 (hi:Int));refine(lI hi _ H2.out).mono ?_;rintro e w4 ⟨rfl,rfl⟩))
    all_goals
     go_wp2;refine bodyPost_ret (v:= .tuple #[.agg #[uV (posW lo:Int),uV (posW hi:Int)],iV 0]) (by simp[results,Tryz.results27,go_sem,k10,k11]) rfl ?_;rw[r.out];exact⟨rfl,((HbD.out.setCell (by simp) _).setCell (by simp) _).drew⟩
   ·have r:Hid (makeN lo hi=(0,0,2)):=by show _=_;rw[HR.out,if_neg (by simp),if_pos hlt]
    clear HR hlt;go_wp2;refine bodyPost_ret (v:= .tuple #[.agg #[uV 0,uV 0],iV 2]) (by simp[results,Tryz.results27,go_sem,k10,k11]) rfl ?_;rw[r.out];exact⟨rfl,(HbD.out.setCell (by simp) _).setCell (by simp) _⟩
theorem eH (x y:Int) (w:World):aw 26 #[.agg #[uV x,uV y]] w (.agg #[uV x,uV y]):=by
 go_enter Tryz.func26,Tryz.ntmps26;go_wp2;exact bodyPost_ret (v:= .agg #[uV x,uV y]) (by simp[results,Tryz.results26,go_sem]) rfl ⟨rfl,aJ.alloc (by simp) _⟩
theorem iZ (x y:Int) (w:World):aw 28 #[.agg #[uV x,uV y],.agg #[uV x,uV y]] w (.bool true):=by
 go_enter Tryz.func28,Tryz.ntmps28;go_wp2
 go_ret
 exact⟨rfl,aJ.alloc (by simp) _⟩
theorem qH {W:World} {g:Nat} {a0 a1 a2 a3 a4 a5 a6 a7 a8:Value} {t:TypeId} (h:W.heap[g]?=some (.cells #[a0,a1,a2,a3,a4,a5,a6,a7,a8] t (0,0))):
  W.cell? ⟨g,0,none⟩=some a0∧W.cell? ⟨g,1,none⟩=some a1∧W.cell? ⟨g,2,none⟩=some a2∧W.cell? ⟨g,3,none⟩=some a3∧W.cell? ⟨g,4,none⟩=some a4∧W.cell? ⟨g,5,none⟩=some a5∧W.cell? ⟨g,6,none⟩=some a6∧W.cell? ⟨g,7,none⟩=some a7∧W.cell? ⟨g,8,none⟩=some a8:=
 ⟨by simp[World.cell?,h],by simp[World.cell?,h],by simp[World.cell?,h],by simp[World.cell?,h],by simp[World.cell?,h],by simp[World.cell?,h],by simp[World.cell?,h],by simp[World.cell?,h],by simp[World.cell?,h]⟩
theorem rJ (A:Nat→Addr) (a b:Int) (s:ByteArray) (xl xh:Nat) (yl yh:Int) (po:Option Addr) (pl pc:Nat) (w:World) (h1:xl<18446744073709551616) (h2:xh<18446744073709551616) (hS:aE A w):
  aw 18 #[.agg #[iV 1,iV a,iV b,.string s,nV xl,nV xh,uV yl,uV yh,.slice po pl pc]] w (.bool true):=by
 have H1:=hid h1;have H2:=hid h2;clear h1 h2;go_enter Tryz.func18,Tryz.ntmps18;go_wp2_with fail;have hW:Below w.heap.size w (w.alloc (.cells #[iV 1,iV a,iV b,.string s,.int .u64 ↑xl,.int .u64 ↑xh,uV yl,uV yh,.slice po pl pc] 31)):=aK.alloc ae _;have hS1:=hS.below hW ae;refine(eH _ _ _).mono ?_;rintro e w1 ⟨rfl,hb1⟩;have B0:=aa (af w (.cells #[iV 1,iV a,iV b,.string s,.int .u64 ↑xl,.int .u64 ↑xh,uV yl,uV yh,.slice po pl pc] 31)) hb1;have HbA:=hid (hW.trans (hb1.mono hW.size));have HS1:=hid (hS1.below hb1 ae);have HB0:=hid B0;clear hW hS hS1 hb1 B0;go_wp2_with fail;refine(uD A xl xh _ H1.out H2.out HS1.out).mono ?_;rintro e w2 ⟨rfl,hb2⟩;have B0:=aa HB0.out hb2;have HbB:=hid (HbA.out.trans (hb2.mono HbA.out.size));clear HbA HS1 HB0 hb2;generalize hmk:makeN xl xh=r;have HMK:=hid hmk;clear hmk;obtain⟨rl,rh,rk⟩:=r;dsimp only;obtain⟨-,-,-,-,k4,k5,-,-,-⟩:=qH B0;have hz:=(Array.getElem?_eq_some_iff.1 B0).1;go_wp2_with fail;refine(jS xl xh _ H1.out H2.out).mono ?_;rintro e w3 ⟨rfl,hb3⟩;rw[HMK.out];dsimp only;have B3:=aa (af w2 (.cells #[uV rl,uV rh] 33)) hb3;have HbC:=hid ((HbB.out.alloc HbB.out.size _).trans (hb3.mono (by have:=HbB.out.size;simp;omega)));obtain⟨j0,j1,-,-⟩:=aj B3;have hz3:=(Array.getElem?_eq_some_iff.1 B3).1;clear HbB hb3 B0 k4 k5 hz B3 H1 H2;go_wp2_with fail;refine(iZ _ _ _).mono ?_;rintro e w4 ⟨rfl,hb4⟩;have hbD:=(HbC.out.alloc HbC.out.size _).trans (hb4.mono (by have:=HbC.out.size;simp;omega));clear HbC hb4 j0 j1 hz3;go_wp2
 go_ret
 exact⟨rfl,hbD⟩
structure bW where
 k:Nat→Int
 a:Nat→Int
 b:Nat→Int
 s:Nat→ByteArray
 xl:Nat→Nat
 xh:Nat→Nat
 yl:Nat→Nat
 yh:Nat→Nat
 po:Nat→Option Addr
 pl:Nat→Nat
 pc:Nat→Nat
def bW.val (z:bW) (i:Nat):Value:= .agg #[iV (z.k i),iV (z.a i),iV (z.b i),.string (z.s i),uV (z.xl i:Int),uV (z.xh i:Int),uV (z.yl i:Int),uV (z.yh i:Int),.slice (z.po i) (z.pl i) (z.pc i)]
def bW.at (z:bW) (w:World) (g off n:Nat):Prop:=
 ∀i,i<n→w.cell? ⟨g,off+i*9,none⟩=some (iV (z.k i))∧w.cell? ⟨g,off+i*9+1,none⟩=some (iV (z.a i))∧w.cell? ⟨g,off+i*9+2,none⟩=some (iV (z.b i))∧w.cell? ⟨g,off+i*9+3,none⟩=some (.string (z.s i))∧w.cell? ⟨g,off+i*9+4,none⟩=some (uV (z.xl i:Int))∧w.cell? ⟨g,off+i*9+5,none⟩=some (uV (z.xh i:Int))∧w.cell? ⟨g,off+i*9+6,none⟩=some (uV (z.yl i:Int))∧w.cell? ⟨g,off+i*9+7,none⟩=some (uV (z.yh i:Int))∧w.cell? ⟨g,off+i*9+8,none⟩=some (.slice (z.po i) (z.pl i) (z.pc i))
theorem mY (A:Nat→Addr) (z:bW) (ao:Option Addr) (n c:Nat) (lo hi:Int) (w:World) (hn:n≤1466015503701) (hS:aE A w)
  (hz:n=0∨∃g off,ao=some ⟨g,off,none⟩∧g<w.heap.size∧z.at w g off n)
  (hp:∀i,i<n→lo≤z.k i→z.k i≤hi→∀W,aE A W→aw 18 #[z.val i] W (.bool true)):
  aw 14 #[.slice ao n c,iV lo,iV hi] w (iV (-1)):=by
 have HP:=hid hp;have HZ:=hid hz;have HS:=hid hS;clear hp hz hS;go_enter Tryz.func14,Tryz.ntmps14;go_wp2;have hM0:(n:Int)≤1152921504606846976:=by omega
 generalize(1152921504606846976:Int)=M at*
 go_loopw [7] (fun v wr=>∃i:Nat,i≤n∧v=iV (i:Int)∧Below w.heap.size w wr) (fun v _=>n-(intOf v).toNat)
 case atStart=>exact⟨0,Nat.zero_le _,rfl,Below.refl _ _⟩
 case round=>
  obtain⟨i,hi1,rfl,hbr⟩:=hrel;by_cases hin:i<n
  ·have hiM:(i:Int)<M:=by omega
   obtain⟨g,off,rfl,hg,hat⟩:=HZ.out.resolve_left (by omega);obtain⟨c0,c1,c2,c3,c4,c5,c6,c7,c8⟩:=hat i hin;rw[←hbr.cell (by exact hg)] at c0 c1 c2 c3 c4 c5 c6 c7 c8;have HSr:=hid (HS.out.below hbr ae);have HPi:=hid (HP.out i hin);have Hbr:=hid hbr;unfold bW.val at HPi;clear hat HZ HP HS hg hbr;generalize z.k i=zk at*;generalize z.a i=za at*;generalize z.b i=zb at*;generalize z.s i=zs at*;generalize z.xl i=zxl at*;generalize z.xh i=zxh at*;generalize z.yl i=zyl at*;generalize z.yh i=zyh at*;generalize z.po i=zpo at*;generalize z.pl i=zpl at*;generalize z.pc i=zpc at*;by_cases hk1:lo≤zk
   ·by_cases hk2:zk≤hi
    ·go_wp2_with fail;have hA1:Below wr.heap.size wr (wr.alloc (.cells #[iV zk,iV za,iV zb,.string zs,.int .u64 ↑zxl,.int .u64 ↑zxh,.int .u64 ↑zyl,.int .u64 ↑zyh,.slice zpo zpl zpc] 31)):=aK.alloc ae _;refine (HPi.out hk1 hk2 _ (HSr.out.below hA1 ae)).mono ?_;rintro e w1 ⟨rfl,hb1⟩;have Hb1:=hid ((Hbr.out.alloc Hbr.out.size _).trans (hb1.mono (by have:=Hbr.out.size;simp;omega)));clear hA1 hb1 HPi HSr Hbr c0 c1 c2 c3 c4 c5 c6 c7 c8;go_wp2;go_roundw
     case rel=>exact⟨i+1,by omega,by go_num,Hb1.out⟩
     case measure=>simp[intOf];omega
    ·clear HPi HSr;go_wp2;go_roundw
     case rel=>exact⟨i+1,by omega,by go_num,Hbr.out.alloc Hbr.out.size _⟩
     case measure=>simp[intOf];omega
   ·clear HPi HSr;go_wp2;go_roundw
    case rel=>exact⟨i+1,by omega,by go_num,Hbr.out.alloc Hbr.out.size _⟩
    case measure=>simp[intOf];omega
  ·clear HZ HP HS;go_wp2
   go_ret
   exact⟨rfl,hbr⟩
theorem Hw (A:Nat→Addr) (z:bW) (ao:Option Addr) (n c:Nat) (w:World) (hn:n≤1466015503701) (hS:aE A w)
  (hz:n=0∨∃g off,ao=some ⟨g,off,none⟩∧g<w.heap.size∧z.at w g off n) (hx:∀i,i<n→z.xl i<18446744073709551616∧z.xh i<18446744073709551616):
  aw 3 #[.slice ao n c] w (.bool true):=by
 have HU:=mY A z ao n c 1 1 w hn hS hz (fun i hi h1 h2 W hW=>by
  have hk:z.k i=1:=by omega
  unfold bW.val;rw[hk];exact rJ A _ _ _ _ _ _ _ _ _ _ W (hx i hi).1 (hx i hi).2 hW)
 clear hz hx hS hn;have HU:=hid HU;go_enter Tryz.func3,Tryz.ntmps3;go_wp2_with fail;refine Calls.mono HU.out ?_;rintro e w1 ⟨rfl,hb1⟩;clear HU;go_wp2
 go_ret
 exact⟨rfl,hb1⟩
end
section
open Go.RowKit Go.Extern.Stop Go.Stop Go.Extern
theorem Fj (A:Nat→Addr) (w:World) (b i:Nat) (s:ByteArray) (hi:i<9) (hS:aE A w) (h:w.heap[b]?=some (.cells #[.string s,aL (A i)] 138 (0,0))):
  aw 49 #[.iface 136 (.pointer (some ⟨b,0,none⟩))] w (.tuple #[iV (i+1:Nat),.string s]):=by
 obtain⟨i',hi',hcmp⟩:=Option.map_eq_some_iff.1 lE;obtain⟨j',hj',hjs⟩:=Option.map_eq_some_iff.1 lJ
 have hneq:∀w,(binOp .neq 70 (aL (A i)) (aL (A i))).run Tryz.prog w= .ok (.bool false) w:=by
  intro w;simp only[binOp];simp[Op.equal,Op.maxDepth,run_equalIn_iface_ptr_same w 9998 (A i) Tryz.underlying70 Tryz.underlying229 hi' hcmp hj']
 clear hi' hj' hcmp hjs;go_enter Tryz.func49,Tryz.ntmps49;go_wp2_with fail;refine(Gv _ _ (.pointer none) _ (hS.alloc _).ty (by simp) (by simp)).mono ?_;rintro e w0 ⟨rfl,w1',hb0,rfl⟩;have hbA:Below w.heap.size w (w1'.setCell ⟨w.heap.size,0,none⟩ (.pointer (some ⟨b,0,none⟩))):=(aJ.trans (hb0.mono (by simp))).setCell (by simp) _
 have k0:(w1'.setCell ⟨w.heap.size,0,none⟩ (.pointer (some ⟨b,0,none⟩))).cell? ⟨w.heap.size,0,none⟩=some (.pointer (some ⟨b,0,none⟩)):=by
  have:=aa (af w _) hb0;simp[World.cell?,World.setCell,Array.getElem?_modify,this]
 have h2:(w1'.setCell ⟨w.heap.size,0,none⟩ (.pointer (some ⟨b,0,none⟩))).heap[b]?=some (.cells #[.string s,aL (A i)] 138 (0,0)):=by
  rw[hbA.block _ (ag h)];exact h
 have hS1:=hS.below hbA ae;have hb:=hbA;clear hb0 hbA h;generalize w1'.setCell ⟨w.heap.size,0,none⟩ (.pointer (some ⟨b,0,none⟩))=w1 at*;have k1:w1.cell? ⟨b,0,none⟩=some (.string s):=by simp[World.cell?,h2]
 have k2:w1.cell? ⟨b,1,none⟩=some (aL (A i)):=by simp[World.cell?,h2]
 go_wp2_with fail;have H2:=hid h2;have HS1:=hid hS1;have HB:=hid hb;clear h2 hS1 hb hS
 go_region_held3 (fun W=>W.cell? ⟨w.heap.size,0,none⟩=some (.pointer (some ⟨b,0,none⟩))∧W.cell? ⟨b,1,none⟩=some (aL (A i))) (first|(go_keep;done)|(refine⟨?_,?_⟩<;>first|(go_keep;done)|assumption))
  (first|(go_at_call 97;refine(mZ b s _ _ (show(w1.drew).heap[b]?=_ from H2.out)).mono ?_;rintro e w3 ⟨rfl,rfl⟩))
 have hS1:=HS1.out.below aK.drew ae;have hb:Below w.heap.size w w1.drew:=HB.out.drew;have h2:w1.drew.heap[b]?=some (.cells #[.string s,aL (A i)] 138 (0,0)):=H2.out;clear HS1 HB H2 k0 k1 k2 hneq;generalize w1.drew=w1 at*;have c0:w1.cell? ⟨3,0,none⟩=some (aL (A 0)):=hS1.cell 0 (by omega);have c1:w1.cell? ⟨4,0,none⟩=some (aL (A 1)):=hS1.cell 1 (by omega);have c2:w1.cell? ⟨5,0,none⟩=some (aL (A 2)):=hS1.cell 2 (by omega);have c3:w1.cell? ⟨1,0,none⟩=some (aL (A 3)):=hS1.cell 3 (by omega);have c4:w1.cell? ⟨2,0,none⟩=some (aL (A 4)):=hS1.cell 4 (by omega);have c5:w1.cell? ⟨0,0,none⟩=some (aL (A 5)):=hS1.cell 5 (by omega);have c6:w1.cell? ⟨6,0,none⟩=some (aL (A 6)):=hS1.cell 6 (by omega);have c7:w1.cell? ⟨7,0,none⟩=some (aL (A 7)):=hS1.cell 7 (by omega);have c8:w1.cell? ⟨8,0,none⟩=some (aL (A 8)):=hS1.cell 8 (by omega);go_wp2_with fail;have hS2:=hS1.alloc (.cells #[aL (A 0),aL (A 1),aL (A 2),aL (A 3),aL (A 4),aL (A 5),aL (A 6),aL (A 7),aL (A 8)] 70);have hb2:=hb.alloc hb.size (.cells #[aL (A 0),aL (A 1),aL (A 2),aL (A 3),aL (A 4),aL (A 5),aL (A 6),aL (A 7),aL (A 8)] 70)
 have hl:∀k,k<9→(w1.alloc (.cells #[aL (A 0),aL (A 1),aL (A 2),aL (A 3),aL (A 4),aL (A 5),aL (A 6),aL (A 7),aL (A 8)] 70)).cell? ⟨w1.heap.size,k,none⟩=some (aL (A k)):=by
  intro k hk;rcases(show k=0∨k=1∨k=2∨k=3∨k=4∨k=5∨k=6∨k=7∨k=8 by omega) with rfl|rfl|rfl|rfl|rfl|rfl|rfl|rfl|rfl<;>simp
 have H3:Hid ((w1.alloc (.cells #[aL (A 0),aL (A 1),aL (A 2),aL (A 3),aL (A 4),aL (A 5),aL (A 6),aL (A 7),aL (A 8)] 70)).heap[b]?=some (.cells #[.string s,aL (A i)] 138 (0,0))):=by
  rw[Below.heap_alloc _ _ _ (ag h2)];exact h2
 clear c0 c1 c2 c3 c4 c5 c6 c7 c8 hb hS1 h2;generalize(w1.alloc (.cells #[aL (A 0),aL (A 1),aL (A 2),aL (A 3),aL (A 4),aL (A 5),aL (A 6),aL (A 7),aL (A 8)] 70))=W2 at*
 go_loop [38] (fun v=>∃k:Nat,k≤i∧v=iV k) (fun v=>9-(intOf v).toNat)
 case atStart=>exact⟨0,Nat.zero_le _,rfl⟩
 case round=>
  obtain⟨k,hk,rfl⟩:=hrel;have hck:=hl k (by omega);have hk9:k<9:=by omega
  clear hl;by_cases hki:k=i
  ·subst hki;go_wp2_with fail;refine(vx b s _ _ H3.out).mono ?_;rintro e w' ⟨rfl,rfl⟩;go_wp2_with fail;go_ret2;exact⟨by go_num,hb2⟩
  ·obtain⟨ca,ta,hra⟩:=hS2.row i hi;obtain⟨cb,tb,hrb⟩:=hS2.row k hk9;have hne:A i≠A k:=fun h=>hS2.other k i (by omega) hi h.symm
   go_wp2_with fail;refine(uH b s _ _ ca cb ta tb _ hne hra hrb H3.out).mono ?_;rintro e w' ⟨rfl,rfl⟩;go_wp2_with fail
   go_round
   case rel=>exact⟨k+1,by omega,by go_num⟩
   case measure=>simp[intOf];omega
end
section
open Go.RowKit Go.Deep Go.ChangeShapes Go.WideShapes
theorem oz:Tryz.prog.cellsOf 31=9:=by kernel_rfl
theorem zW:Tryz.prog.cellsOf 28=2:=by kernel_rfl
theorem yk:Tryz.prog.cellsOf 3=1:=by kernel_rfl
theorem pY:Tryz.prog.cellsOf 26=1:=by kernel_rfl
theorem yj:Tryz.prog.cellsOf 9=1:=by kernel_rfl
theorem uj:Tryz.prog.cellsOf 29=1:=by kernel_rfl
section
variable {H:Type} {enc:TypeId×Value→H} {W:World} {base:Nat} {spare:Nat→Bool} {held:Bool}
theorem wD {n:Int} (h:(Lit.int .u64 n).wf=true):∃m:Nat,n=(m:Int)∧m<18446744073709551616:=by
 have hb:=bounds_u64 h;exact⟨n.toNat,by omega,by omega⟩
theorem t9 {fuel:Nat} {a b:Value} {x:DataW H×List MemPlace} (h:DataW.trod enc Tryz.prog W base spare held fuel 28 [a,b]=some x):
  ∃l u:Nat,a=nV l∧b=nV u∧l<18446744073709551616∧u<18446744073709551616:=by
 obtain⟨y0,y1,n,_,_,h0,h1⟩:=trod_struct2 Tryz.underlying28 h;rw[pY] at h0 h1;obtain⟨p,e0,_,w0⟩:=DataW.trod_int Tryz.underlying26 h0;obtain⟨q,e1,_,w1⟩:=DataW.trod_int Tryz.underlying26 h1;obtain⟨l,rfl,hl⟩:=wD w0;obtain⟨u,rfl,hu⟩:=wD w1;simp at e0 e1;exact⟨l,u,e0,e1,hl,hu⟩
theorem Hl {α:Type} {l:List α} (h:l.length=9):∃a0 a1 a2 a3 a4 a5 a6 a7 a8,l=[a0,a1,a2,a3,a4,a5,a6,a7,a8]:=by
 match l,h with
 |[a0,a1,a2,a3,a4,a5,a6,a7,a8],_=>exact⟨_,_,_,_,_,_,_,_,_,rfl⟩
theorem vn {fuel:Nat} {cs:List Value} {x:DataW H×List MemPlace} (h:DataW.trod enc Tryz.prog W base spare held fuel 31 cs=some x):
  ∃(k a b:Int) (s:ByteArray) (xl xh yl yh:Nat) (po:Option Addr) (pl pc:Nat),cs=[iV k,iV a,iV b,.string s,nV xl,nV xh,nV yl,nV yh,.slice po pl pc]∧xl<18446744073709551616∧xh<18446744073709551616∧yl<18446744073709551616∧yh<18446744073709551616∧(-9223372036854775808≤a∧a<9223372036854775808)∧(-9223372036854775808≤b∧b<9223372036854775808):=by
 obtain⟨xs,n,_,_,hl,hlen,hf⟩:=DataW.trod_struct Tryz.underlying31 h;rw[oz] at hl;obtain⟨a0,a1,a2,a3,a4,a5,a6,a7,a8,rfl⟩:=Hl hl;have hlen7:xs.length=7:=hlen;have get:∀i,i<7→∃y,xs[i]?=some y:=fun i hi=>⟨xs[i]'(by rw[hlen7];exact hi),List.getElem?_eq_getElem (by rw[hlen7];exact hi)⟩
 obtain⟨y0,g0⟩:=get 0 (by omega);obtain⟨y1,g1⟩:=get 1 (by omega);obtain⟨y2,g2⟩:=get 2 (by omega);obtain⟨y3,g3⟩:=get 3 (by omega);obtain⟨y4,g4⟩:=get 4 (by omega);obtain⟨y5,g5⟩:=get 5 (by omega);obtain⟨y6,g6⟩:=get 6 (by omega);have f0:DataW.trod enc Tryz.prog W base spare held n 3 (List.take (Tryz.prog.cellsOf 3) (List.drop 0 [a0,a1,a2,a3,a4,a5,a6,a7,a8]))=some y0:=(hf 0 _ rfl).trans g0;have f1:DataW.trod enc Tryz.prog W base spare held n 3 (List.take (Tryz.prog.cellsOf 3) (List.drop 1 [a0,a1,a2,a3,a4,a5,a6,a7,a8]))=some y1:=(hf 1 _ rfl).trans g1;have f2:DataW.trod enc Tryz.prog W base spare held n 3 (List.take (Tryz.prog.cellsOf 3) (List.drop 2 [a0,a1,a2,a3,a4,a5,a6,a7,a8]))=some y2:=(hf 2 _ rfl).trans g2;have f3:DataW.trod enc Tryz.prog W base spare held n 9 (List.take (Tryz.prog.cellsOf 9) (List.drop 3 [a0,a1,a2,a3,a4,a5,a6,a7,a8]))=some y3:=(hf 3 _ rfl).trans g3;have f4:DataW.trod enc Tryz.prog W base spare held n 28 (List.take (Tryz.prog.cellsOf 28) (List.drop 4 [a0,a1,a2,a3,a4,a5,a6,a7,a8]))=some y4:=(hf 4 _ rfl).trans g4;have f5:DataW.trod enc Tryz.prog W base spare held n 28 (List.take (Tryz.prog.cellsOf 28) (List.drop 6 [a0,a1,a2,a3,a4,a5,a6,a7,a8]))=some y5:=(hf 5 _ rfl).trans g5;have f6:DataW.trod enc Tryz.prog W base spare held n 29 (List.take (Tryz.prog.cellsOf 29) (List.drop 8 [a0,a1,a2,a3,a4,a5,a6,a7,a8]))=some y6:=(hf 6 _ rfl).trans g6;rw[yk] at f0 f1 f2;rw[yj] at f3;rw[zW] at f4 f5;rw[uj] at f6;obtain⟨k,e0,-,-⟩:=DataW.trod_int Tryz.underlying3 f0;obtain⟨a,e1,-,wa⟩:=DataW.trod_int Tryz.underlying3 f1;obtain⟨b,e2,-,wb⟩:=DataW.trod_int Tryz.underlying3 f2;have ba:=bounds_i64 wa;have bb:=bounds_i64 wb;obtain⟨s,e3,-,-⟩:=DataW.trod_string Tryz.underlying9 f3;obtain⟨xl,xh,e4,e5,b4,b5⟩:=t9 (show DataW.trod enc Tryz.prog W base spare held n 28 [a4,a5]=some y4 from f4);obtain⟨yl,yh,e6,e7,b6,b7⟩:=t9 (show DataW.trod enc Tryz.prog W base spare held n 28 [a6,a7]=some y5 from f5);obtain⟨po,pl,pc,e8⟩:=Joins.slice_form Tryz.underlying29 f6;simp at e0 e1 e2 e3 e8;subst e0 e1 e2 e3 e4 e5 e6 e7 e8;exact⟨_,_,_,_,_,_,_,_,_,_,_,rfl,b4,b5,b6,b7,⟨by omega,by omega⟩,⟨by omega,by omega⟩⟩
theorem Ca {fuel:Nat} {v:Value} {d:DataW H} {ps:List MemPlace} (h:DataW.trod enc Tryz.prog W base spare held fuel 22 v.cells.toList=some (d,ps)) (hv:∃a len cap,v= .slice a len cap):
  ∃(z:bW) (ao:Option Addr) (n c:Nat),v= .slice ao n c∧(n=0∨∃g off,ao=some ⟨g,off,none⟩∧g<W.heap.size∧z.at W g off n)∧(∀i,i<n→(z.xl i<18446744073709551616∧z.xh i<18446744073709551616)∧(z.yl i<18446744073709551616∧z.yh i<18446744073709551616)∧(-9223372036854775808≤z.a i∧z.a i<9223372036854775808)∧(-9223372036854775808≤z.b i∧z.b i<9223372036854775808))∧
   (d= .nil∧n=0∨∃es sp,d= .slice es sp∧es.length=n):=by
 obtain⟨ao,n,c,rfl⟩:=hv;have hcs:(Value.slice ao n c).cells.toList=[.slice ao n c]:=rfl;rw[hcs] at h;rcases open_slice Tryz.underlying22 h with⟨h0,hx⟩|⟨a,len,cap,m,f,D,Pl,h0,hb,hl,hm,hmm,hx,hall⟩
 ·simp at h0;obtain⟨rfl,rfl,rfl⟩:=h0;simp at hx;exact⟨⟨fun _=>0,fun _=>0,fun _=>0,fun _=>ByteArray.empty,fun _=>0,fun _=>0,fun _=>0,fun _=>0,fun _=>none,fun _=>0,fun _=>0⟩,none,0,0,rfl,Or.inl rfl,fun i hi=>by omega,Or.inl ⟨hx.1,rfl⟩⟩
 ·simp at h0;obtain⟨rfl,rfl,rfl⟩:=h0;have hmn:n≤m:=by rw[hmm];split<;>omega
  rw[oz] at hall
  have hop:∀i,i<n→∃t:(Int×Int×Int)×ByteArray×(Nat×Nat×Nat×Nat)×(Option Addr×Nat×Nat),
    (W.cell? (a.add (i*9))=some (iV t.1.1)∧W.cell? ((a.add (i*9)).add 1)=some (iV t.1.2.1)∧W.cell? ((a.add (i*9)).add 2)=some (iV t.1.2.2)∧W.cell? ((a.add (i*9)).add 3)=some (.string t.2.1)∧
     W.cell? ((a.add (i*9)).add 4)=some (nV t.2.2.1.1)∧W.cell? ((a.add (i*9)).add 5)=some (nV t.2.2.1.2.1)∧W.cell? ((a.add (i*9)).add 6)=some (nV t.2.2.1.2.2.1)∧W.cell? ((a.add (i*9)).add 7)=some (nV t.2.2.1.2.2.2)∧
     W.cell? ((a.add (i*9)).add 8)=some (.slice t.2.2.2.1 t.2.2.2.2.1 t.2.2.2.2.2))∧
    (t.2.2.1.1<18446744073709551616∧t.2.2.1.2.1<18446744073709551616)∧(t.2.2.1.2.2.1<18446744073709551616∧t.2.2.1.2.2.2<18446744073709551616)∧(-9223372036854775808≤t.1.2.1∧t.1.2.1<9223372036854775808)∧(-9223372036854775808≤t.1.2.2∧t.1.2.2<9223372036854775808):=by
   intro i hi;obtain⟨cs',h1,h2⟩:=hall i (by omega);obtain⟨-,-,hc⟩:=World.cells?_some h1;obtain⟨k,a',b',s,xl,xh,yl,yh,po,pl,pc,rfl,q1,q2,q3,q4,q5⟩:=vn h2;have e0:(a.add (i*9)).add 0=a.add (i*9):=by simp[Addr.add]
   refine⟨((k,a',b'),s,(xl,xh,yl,yh),(po,pl,pc)),⟨?_,?_,?_,?_,?_,?_,?_,?_,?_⟩,⟨q1,q2⟩,⟨q3,q4⟩,q5⟩
   ·have:=hc 0 (by omega);rw[e0] at this;simpa using this
   ·simpa using hc 1 (by omega)
   ·simpa using hc 2 (by omega)
   ·simpa using hc 3 (by omega)
   ·simpa using hc 4 (by omega)
   ·simpa using hc 5 (by omega)
   ·simpa using hc 6 (by omega)
   ·simpa using hc 7 (by omega)
   ·simpa using hc 8 (by omega)
  obtain⟨F,hF⟩:=choose_lt (α:=(Int×Int×Int)×ByteArray×(Nat×Nat×Nat×Nat)×(Option Addr×Nat×Nat)) hop;refine⟨⟨fun i=>(F i).1.1,fun i=>(F i).1.2.1,fun i=>(F i).1.2.2,fun i=>(F i).2.1,fun i=>(F i).2.2.1.1,fun i=>(F i).2.2.1.2.1,fun i=>(F i).2.2.1.2.2.1,fun i=>(F i).2.2.1.2.2.2,fun i=>(F i).2.2.2.1,fun i=>(F i).2.2.2.2.1,fun i=>(F i).2.2.2.2.2⟩,some a,n,c,rfl,?_,fun i hi=>(hF i hi).2,?_⟩
  ·by_cases hn:n=0
   ·exact Or.inl hn
   ·right;obtain⟨g,off,spot⟩:=a;have h00:=(hF 0 (by omega)).1.1;have hspot:spot=none:=by simpa[Addr.add] using World.cell?_spot h00
    subst hspot
    have ea:∀j,(Addr.mk g off none).add j=⟨g,off+j,none⟩:=fun j=>by
     by_cases hj:j=0
     ·subst hj;simp[Addr.add]
     ·simp[Addr.add,hj]
    have ea2:∀i j,((Addr.mk g off none).add i).add j=⟨g,off+i+j,none⟩:=fun i j=>by
     rw[ea];by_cases hj:j=0
     ·subst hj;simp[Addr.add]
     ·simp[Addr.add,hj]
    refine⟨g,off,rfl,?_,fun i hi=>?_⟩
    ·have:=World.block_lt_of_cell? W _ h00;rw[ea] at this;exact this
    ·have:=(hF i hi).1;rw[ea2,ea2,ea2,ea2,ea2,ea2,ea2,ea2,ea] at this;exact this
  ·right;simp only[Prod.mk.injEq] at hx;exact⟨_,_,hx.1,by simp⟩
end
end
end Go.Proofs.YtonhpkigoplmaaaGreatDoor
