import Derived.Test.YtonhpkigoplmaaaGreatDoorZ08
set_option maxRecDepth 100000
set_option maxHeartbeats 40000000
namespace Go.Proofs.YtonhpkigoplmaaaGreatDoor
section
open Go.RowKit Go.Extern Ieee
attribute [local go_sem] av
theorem Id:wd false 9218868437227405312=9218868437227405312:=rfl
theorem Ie:wd true 9218868437227405312=18442240474082181120:=rfl
theorem uA (w:World):ax 172 #[fV 9218868437227405312,fV 18442240474082181120] w fun e w'=>e= .returned (fV 9218868437227405311)∧w'=w:=by
 have h89:=@run_callFunc_extern Tryz.prog 99 _ MathFloatBits.float64bits Tryz.func99 (by kernel_rfl) (by kernel_rfl) (by kernel_rfl) (by kernel_rfl);have h93:=@run_callFunc_extern Tryz.prog 113 _ MathFloatBits.float64frombits Tryz.func113 (by kernel_rfl) (by kernel_rfl) (by kernel_rfl) (by kernel_rfl);have cb:∀w,(MathFloatBits.float64bits #[fV 9218868437227405312]).run Tryz.prog w= .ok (uV 9218868437227405312) w:=fun w=>oU 9218868437227405312 w
 have cd:∀w,(MathFloatBits.float64frombits #[uV 9218868437227405311]).run Tryz.prog w= .ok (fV 9218868437227405311) w:=fun w=>iH 9218868437227405311 w
 have e1:FloatKind.f64.format.order 9218868437227405312 18442240474082181120=some .gt:=rfl;have e2:FloatKind.f64.format.order 18442240474082181120 9218868437227405312=some .lt:=rfl;have e3:FloatKind.f64.format.order 9218868437227405312 0=some .gt:=rfl;go_enter Tryz.func172,Tryz.ntmps172;go_wp2_with fail;refine(fc _ w lD).mono ?_;rintro e w' ⟨rfl,rfl⟩;go_wp2_with fail;refine(fc _ _ km).mono ?_;rintro e w' ⟨rfl,rfl⟩;go_wp2
 go_ret
 exact⟨rfl,rfl⟩
theorem yy (w:World):ax 172 #[fV 18442240474082181120,fV 9218868437227405312] w fun e w'=>e= .returned (fV 18442240474082181119)∧w'=w:=by
 have h89:=@run_callFunc_extern Tryz.prog 99 _ MathFloatBits.float64bits Tryz.func99 (by kernel_rfl) (by kernel_rfl) (by kernel_rfl) (by kernel_rfl);have h93:=@run_callFunc_extern Tryz.prog 113 _ MathFloatBits.float64frombits Tryz.func113 (by kernel_rfl) (by kernel_rfl) (by kernel_rfl) (by kernel_rfl);have cb:∀w,(MathFloatBits.float64bits #[fV 18442240474082181120]).run Tryz.prog w= .ok (uV 18442240474082181120) w:=fun w=>oU 18442240474082181120 w
 have cd:∀w,(MathFloatBits.float64frombits #[uV 18442240474082181119]).run Tryz.prog w= .ok (fV 18442240474082181119) w:=fun w=>iH 18442240474082181119 w
 have e1:FloatKind.f64.format.order 9218868437227405312 18442240474082181120=some .gt:=rfl;have e2:FloatKind.f64.format.order 18442240474082181120 9218868437227405312=some .lt:=rfl;have e3:FloatKind.f64.format.order 18442240474082181120 0=some .lt:=rfl;go_enter Tryz.func172,Tryz.ntmps172;go_wp2_with fail;refine(fc _ w km).mono ?_;rintro e w' ⟨rfl,rfl⟩;go_wp2_with fail;refine(fc _ _ lD).mono ?_;rintro e w' ⟨rfl,rfl⟩;go_wp2
 go_ret
 exact⟨rfl,rfl⟩
theorem xM (q:Nat) (w:World) (hq:FloatKind.f64.format.order q 0=some .lt):
  aw 141 #[fV 9218868437227405312,fV q] w (gF 9218868437227405311 9218868437227405312):=by
 go_enter Tryz.func141,Tryz.ntmps141;go_wp2_with fail;refine(wO _).mono ?_;rintro e w' ⟨rfl,rfl⟩;go_wp2_with fail;refine (uA _).mono ?_;rintro e w' ⟨rfl,rfl⟩;go_wp2;refine bodyPost_ret (v:=gF 9218868437227405311 9218868437227405312) (by simp[results,Tryz.results141,go_sem]) rfl ?_;exact⟨rfl,by(repeat refine Below.setCell ?_ (by simp) _);exact aK.alloc ae _⟩
theorem xx (q:Nat) (w:World) (hq:FloatKind.f64.format.order q 0=some .gt):
  aw 141 #[fV 18442240474082181120,fV q] w (gF 18442240474082181120 18442240474082181119):=by
 go_enter Tryz.func141,Tryz.ntmps141;go_wp2_with fail;refine(A5 _).mono ?_;rintro e w' ⟨rfl,rfl⟩;go_wp2_with fail;refine (yy _).mono ?_;rintro e w' ⟨rfl,rfl⟩;go_wp2;refine bodyPost_ret (v:=gF 18442240474082181120 18442240474082181119) (by simp[results,Tryz.results141,go_sem]) rfl ?_;exact⟨rfl,by(repeat refine Below.setCell ?_ (by simp) _);exact aK.alloc ae _⟩
theorem pX (s:Bool) (R q:Nat) (o:Ordering) (h0:0<R) (h:R<9218868437227405312) (hq:FloatKind.f64.format.order q 0=some o):
  ∃D U,R-1≤D∧D≤R+1∧R-1≤U∧U≤R+1∧bF 141 #[fV (wd s R),fV q] (wd s D) (wd s U):=by
 cases o
 ·exact⟨_,_,by split<;>omega,by split<;>omega,by omega,by omega,fun w=>me s R q w hq h h0⟩
 ·exact⟨R,R,by omega,by omega,by omega,by omega,fun w=>jo (wd s R) q w hq⟩
 ·exact⟨_,_,by omega,by omega,by split<;>omega,by split<;>omega,fun w=>mh s R q w hq h h0⟩
theorem pW (s:Bool) (R q:Nat) (o:Ordering) (h0:1<R) (h:R<553942754166571007) (hq:FloatKind.f64.format.order q 0=some o):
  ∃d u,FR d (sgI s 553942754166571007)∧FR u (sgI s 553942754166571007)∧bF 141 #[fV (wd s R),fV q] d u:=by
 obtain⟨D,U,a1,a2,a3,a4,hG⟩:=pX s R q o (by omega) (by omega) hq;exact⟨_,_,kL s (by omega) (by omega),kL s (by omega) (by omega),hG⟩
theorem jX (s:Bool) (R q:Nat) (o:Ordering) (h0:8660422083433463809<R) (h:R≤9218868437227405312) (hq:FloatKind.f64.format.order q 0=some o) (hi:R=9218868437227405312→o=if s then .gt else .lt):
  ∃d u,FR d (sgI s 8660422083433463809)∧FR u (sgI s 8660422083433463809)∧bF 141 #[fV (wd s R),fV q] d u:=by
 by_cases hR:R=9218868437227405312
 ·have ho:=hi hR;subst hR
  cases s
  ·rw[if_neg Bool.false_ne_true] at ho;subst ho;exact⟨_,_,kM false (R:=9218868437227405311) (by omega) (by omega),kM false (R:=9218868437227405312) (by omega) (by omega),fun w=>xM q w hq⟩
  ·rw[if_pos rfl] at ho;subst ho;exact⟨_,_,kM true (R:=9218868437227405312) (by omega) (by omega),kM true (R:=9218868437227405311) (by omega) (by omega),fun w=>xx q w hq⟩
 ·obtain⟨D,U,a1,a2,a3,a4,hG⟩:=pX s R q o (by omega) (by omega) hq;exact⟨_,_,kM s (by omega) (by omega),kM s (by omega) (by omega),hG⟩
theorem qp (s:Bool) (n:Nat) (e:Int):∃o,FloatKind.f64.format.order (double.nearest s n e) 0=some o:=by
 have hz:(0:Nat)=wd false 0:=rfl
 show∃o,double.order _ _=some o
 by_cases h0:n=0
 ·subst h0;have:double.nearest s 0 e=wd s 0:=by cases s<;>rfl
  rw[this,hz];exact⟨_,iO (by omega) (by omega)⟩
 ·obtain⟨R,h1,h2,_⟩:=fH s e h0;rw[h1,hz];exact⟨_,iO h2 (by omega)⟩
end
section
open Go.RowKit Go.Extern Ieee
attribute [local go_sem] av
def negW (b:Nat):Nat:=Op.negFloat .f64 b
theorem cm {P:Program} (w:World) (b:Nat):(Op.unary .neg (fV b)).run P w= .ok (fV (negW b)) w:=rfl
theorem z8 {P:Program} (w:World) {x y z r:Nat} (h:double.fma x y z=some r):(MathFMA.fma #[fV x,fV y,fV z]).run P w= .ok (fV r) w:=by
 have h':FloatKind.f64.format.fma x y z=some r:=h
 delta MathFMA.fma MathFMA.fma.match_3
 simp only[Array.getLit,List.size_toArray,List.length_cons,List.length_nil,Nat.zero_add,Nat.reduceAdd,dite_true,List.getElem_toArray,List.getElem_cons_zero,List.getElem_cons_succ]
 delta MathFMA.fma._sparseCasesOn_3 MathFMA.fma._sparseCasesOn_4
 dsimp only;rw[h']
 rfl
theorem wL (b:Bool):bF 143 #[.bool b] (wd b 103582791429521408) (wd b 103582791429521408):=by
 intro w
 cases b
 ·go_enter Tryz.func143,Tryz.ntmps143;go_wp2;refine bodyPost_ret (v:=gF 103582791429521408 103582791429521408) (by simp[results,Tryz.results143,go_sem]) rfl ?_;exact⟨rfl,aK.alloc ae _⟩
 ·go_enter Tryz.func143,Tryz.ntmps143;go_wp2;refine bodyPost_ret (v:=gF 9326954828284297216 9326954828284297216) (by simp[results,Tryz.results143,go_sem]) rfl ?_;exact⟨rfl,aK.alloc ae _⟩
theorem kD (s:Bool) (R:Nat) (w:World) (hR:R≤9218868437227405312):ax 142 #[fV (wd s R)] w fun e w'=>e= .returned (.bool (decide (R<103582791429521408)))∧w'=w:=by
 have hb:wd s R<18446744073709551616:=kz (by omega);have hm:wd s R % 9223372036854775808=R:=by unfold wd;split<;>omega
 have ho:FloatKind.f64.format.order R 103582791429521408=some (compare (R:Int) 103582791429521408):=by
  have:=iO (s:=false) (t:=false) (r:=R) (q:=103582791429521408) hR (by omega);exact this
 have hA:=jN (wd s R);rw[hm] at hA;clear hm;generalize wd s R=b at*;by_cases h:R<103582791429521408
 ·rw[bX (show(R:Int)<103582791429521408 by omega)] at ho;rw[decide_eq_true h];clear h hR;go_enter Tryz.func142,Tryz.ntmps142;go_wp2_with fail;refine (hA _ hb).mono ?_;rintro e w' ⟨rfl,rfl⟩;go_wp2
  go_ret
  exact⟨rfl,rfl⟩
 ·have hne:(some (compare (R:Int) 103582791429521408)==some Ordering.lt)=false:=by
   rcases(show(R:Int)=103582791429521408∨(103582791429521408:Int)<R by omega) with h'|h'
   ·rw[cR h'];rfl
   ·rw[bJ h'];rfl
  rw[←ho] at hne;clear ho;rw[decide_eq_false h];clear h hR;go_enter Tryz.func142,Tryz.ntmps142;go_wp2_with fail;refine (hA _ hb).mono ?_;rintro e w' ⟨rfl,rfl⟩;go_wp2
  go_ret
  exact⟨rfl,rfl⟩
theorem kn (x y:Nat) (ox oy:Ordering) (hx:FloatKind.f64.format.order x 0=some ox) (hy:FloatKind.f64.format.order y 0=some oy) (h:ox= .eq∨oy= .eq):bF 92 #[fV x,fV y] 0 0:=by
 intro w;have cx:(FloatKind.f64.format.order x 0==some Ordering.eq)=(ox== .eq):=by rw[hx];cases ox<;>rfl
 have cy:(FloatKind.f64.format.order y 0==some Ordering.eq)=(oy== .eq):=by rw[hy];cases oy<;>rfl
 clear hx hy;by_cases h1:ox= .eq;have e1:(ox== .eq)=true:=by rw[h1];rfl
 rw[e1] at cx;clear e1 h cy;rotate_left;have h2:oy= .eq:=by rcases h with h|h;exact absurd h h1;exact h
 have e1:(ox== .eq)=false:=by cases ox<;>first|rfl|exact absurd rfl h1
 have e2:(oy== .eq)=true:=by rw[h2];rfl
 rw[e1] at cx;rw[e2] at cy;clear e1 e2 h h1 h2;rotate_left
 all_goals
  go_enter Tryz.func92,Tryz.ntmps92;go_wp2;refine bodyPost_ret (v:=gF 0 0) (by simp[results,Tryz.results92,go_sem]) rfl ?_;exact⟨rfl,aK.alloc ae _⟩
theorem uF (x y:Nat) (sx sy:Bool) (s:Bool) (R:Nat) (hx:FloatKind.f64.format.order x 0=some (if sx then .lt else .gt)) (hy:FloatKind.f64.format.order y 0=some (if sy then .lt else .gt)) (hm:double.mul x y=some (wd s R)) (hR:R<103582791429521408):
  bF 92 #[fV x,fV y] (wd (sx^^sy) 103582791429521408) (wd (sx^^sy) 103582791429521408):=by
 intro w;have g1:∀w,(binOp .mul 65 (fV x) (fV y)).run Tryz.prog w= .ok (fV (wd s R)) w:=fun w=>run_float_arith w .mul _ .f64 x y _ hm
 have hL:=kD s R;rw[decide_eq_true hR] at hL;have HL:=hid (wL (sx^^sy));have hR:R≤9218868437227405312:=by omega
 generalize wd (sx^^sy) 103582791429521408=l at*;clear hm;generalize wd s R=b at*
 cases sx<;>cases sy
 iterate 4
  ·have hx':=hx;have hy':=hy;clear hx hy;go_enter Tryz.func92,Tryz.ntmps92;go_wp2_with fail;refine (hL _ hR).mono ?_;rintro e w' ⟨rfl,rfl⟩;go_wp2_with fail;refine (HL.out _).mono ?_;rintro e w1 ⟨rfl,hb1⟩;have B0:=aa (af w _) hb1;obtain⟨k0,k1,k2,k3⟩:=aj B0;have HB1:=hid (aJ.trans (hb1.mono (by simp)));clear hb1 B0 HL;go_wp2;refine bodyPost_ret (v:=gF l l) (by simp[results,Tryz.results92,go_sem,k0,k1]) rfl ?_;exact⟨rfl,(HB1.out.setCell (by simp) _).setCell (by simp) _⟩
theorem uR (x y:Nat) (sx sy:Bool) (s:Bool) (R q d u:Nat) (hx:FloatKind.f64.format.order x 0=some (if sx then .lt else .gt)) (hy:FloatKind.f64.format.order y 0=some (if sy then .lt else .gt)) (hm:double.mul x y=some (wd s R)) (hR:¬R<103582791429521408) (hR2:R≤9218868437227405312) (hq:double.fma x y (negW (wd s R))=some q)
  (hA:bF 141 #[fV (wd s R),fV q] d u):bF 92 #[fV x,fV y] d u:=by
 intro w;have g1:∀w,(binOp .mul 65 (fV x) (fV y)).run Tryz.prog w= .ok (fV (wd s R)) w:=fun w=>run_float_arith w .mul _ .f64 x y _ hm
 have hF:=@run_callFunc_extern Tryz.prog 144 _ MathFMA.fma Tryz.func144 (by kernel_rfl) (by kernel_rfl) (by kernel_rfl) (by kernel_rfl);have cF:∀w,(MathFMA.fma #[fV x,fV y,fV (negW (wd s R))]).run Tryz.prog w= .ok (fV q) w:=fun w=>z8 w hq
 have cN:∀w,(Op.unary .neg (fV (wd s R))).run Tryz.prog w= .ok (fV (negW (wd s R))) w:=fun w=>cm w _
 have hL:=kD s R;rw[decide_eq_false hR] at hL;have HA:=hid hA;clear hm hq hA;generalize negW (wd s R)=nb at*;generalize wd s R=b at*
 cases sx<;>cases sy
 iterate 4
  ·have hx':=hx;have hy':=hy;clear hx hy;go_enter Tryz.func92,Tryz.ntmps92;go_wp2_with fail;refine (hL _ hR2).mono ?_;rintro e w' ⟨rfl,rfl⟩;go_wp2_with fail;refine (HA.out _).mono ?_;rintro e w1 ⟨rfl,hb1⟩;have B0:=aa (af w _) hb1;obtain⟨k0,k1,k2,k3⟩:=aj B0;have HB1:=hid (aJ.trans (hb1.mono (by simp)));clear hb1 B0 HA;go_wp2;refine bodyPost_ret (v:=gF d u) (by simp[results,Tryz.results92,go_sem,k0,k1]) rfl ?_;exact⟨rfl,(HB1.out.setCell (by simp) _).setCell (by simp) _⟩
end
section
open Go.RowKit Go.Extern Ieee
theorem yR {R:Nat} (h:R<9223372036854775808):R^^^9223372036854775808=R+9223372036854775808:=by
 have e:(9223372036854775808:Nat)=2^63:=by decide
 rw[e] at h⊢;rw[Nat.add_comm];apply Nat.eq_of_testBit_eq;intro i;rw[Nat.testBit_xor,Nat.testBit_two_pow];rcases(show i<63∨i=63∨63<i by omega) with hi|hi|hi
 ·rw[Nat.testBit_two_pow_add_gt hi,decide_eq_false (by omega),Bool.xor_false]
 ·subst hi;rw[Nat.testBit_two_pow_add_eq,decide_eq_true rfl,Bool.xor_true]
 ·have h2:2^63+R<2^i:=by
   have:(2:Nat)^64≤2^i:=cW (by omega);rw[show(64:Nat)=63+1 from rfl,Nat.pow_succ] at this;omega
  rw[Nat.testBit_lt_two_pow h2,Nat.testBit_lt_two_pow (show R<2^i by omega),decide_eq_false (by omega)];rfl
theorem pF {s:Bool} {R:Nat} (h:R<9223372036854775808):negW (wd s R)=wd (!s) R:=by
 have e:negW (wd s R)=wd s R^^^9223372036854775808:=rfl;rw[e];unfold wd
 cases s
 ·rw[if_neg Bool.false_ne_true,Nat.add_zero,yR h];rfl
 ·rw[if_pos rfl,←yR h,Nat.xor_assoc,Nat.xor_self,Nat.xor_zero];rfl
theorem DU {s:Bool} {R:Nat} (h:R<9223372036854775808):double.read (wd (!s) R)=(double.read (wd s R)).opposite:=by
 have hsw:double.signWeight=9223372036854775808:=rfl;have hbn:double.binade=4503599627370496:=rfl;have hir:double.infRung=9218868437227405312:=rfl;have hlp:double.leastPlace=-1074:=rfl;have hm:∀s,wd s R % 9223372036854775808=R:=by intro s;unfold wd;split<;>omega
 have hd:∀s,(wd s R / 9223372036854775808 % 2==1)=s:=by
  intro s;unfold wd
  cases s
  ·rw[if_neg Bool.false_ne_true,show(R+0) / 9223372036854775808 % 2=0 by omega];rfl
  ·rw[if_pos rfl,show(R+9223372036854775808) / 9223372036854775808 % 2=1 by omega];rfl
 unfold Format.read;simp only[hsw,hbn,hir,hlp,hm,hd];by_cases h1:R<4503599627370496
 ·rw[if_pos h1,if_pos h1];rfl
 ·rw[if_neg h1,if_neg h1];by_cases h2:R<9218868437227405312
  ·rw[if_pos h2,if_pos h2];rfl
  ·rw[if_neg h2,if_neg h2];by_cases h3:R=9218868437227405312
   ·rw[if_pos h3,if_pos h3];rfl
   ·rw[if_neg h3,if_neg h3];rfl
theorem kb {b:Nat} (hb:b<18446744073709551616):double.read (negW b)=(double.read b).opposite:=by
 have:=gZ hb;rw[←this,pF (by omega),DU (by omega)]
theorem eO {b:Nat} {x:ap} (hb:b<18446744073709551616) (h:au b=some x) (h0:x.2.1≠0):
  double.read b= .number x.1 x.2.1 x.2.2∧FloatKind.f64.format.order b 0=some (if x.1 then .lt else .gt)∧4503599627370496≤x.2.1∧x.2.1<9007199254740992∧-952≤x.2.2∧x.2.2≤848:=by
 obtain⟨s,n,e⟩:=x;simp only at h0⊢;have hn:=cD h
 have hr:double.read b= .number s n e:=by
  rcases fp hb h with⟨h1,_⟩|⟨_,h2⟩
  ·exact absurd h1 h0
  ·exact h2
 refine⟨hr,?_,?_⟩
 ·show double.order b 0=_
  unfold Format.order;have hz:double.read 0= .number false 0 (-1074):=rfl;rw[hr,hz];simp only[Datum.order,c9,Nat.zero_mul,i6];have hpos:0<n*2^(e-min e (-1074)).toNat:=Nat.mul_pos (Nat.pos_of_ne_zero h0) (Nat.two_pow_pos _);generalize n*2^(e-min e (-1074)).toNat=m at*
  cases s
  ·rw[bJ (by simp[sg];omega)];rfl
  ·rw[bX (by simp[sg];omega)];rfl
 ·rcases hn with h|h
  ·cases h;exact absurd rfl h0
  ·exact h
theorem fi {b:Nat} {x:ap} (hb:b<18446744073709551616) (h:au b=some x) (h0:x.2.1=0):FloatKind.f64.format.order b 0=some .eq:=by
 obtain⟨s,n,e⟩:=x;simp only at h0;subst h0
 show double.order b 0=_
 unfold Format.order;have hz:double.read 0= .number false 0 (-1074):=rfl;rcases fp hb h with⟨_,_,_,s',h2⟩|⟨h1,_⟩
 ·rw[h2,hz];simp only[Datum.order,c9,Nat.zero_mul,i6];rfl
 ·omega
def aT (x y:ap):ap:=((x.1 !=y.1) && decide (x.2.1*y.2.1≠0),x.2.1*y.2.1,x.2.2+y.2.2)
theorem lO {x:ap} (h:x.2.1=0):f9 x 0 0:=by
 unfold f9 ar;rw[if_pos h,if_pos h];exact⟨jb,jb⟩
theorem l7 (s:Bool) {n:Nat} {e:Int} {d u:Nat} (h0:n≠0) (h:e+bl n≤-901) (hd:FR d (sgI s 553942754166571007)) (hu:FR u (sgI s 553942754166571007)):f9 (s,n,e) d u:=by
 unfold f9;rw[tI s _ h0 h,tI s _ h0 h];exact⟨hd,hu⟩
theorem l9 (s:Bool) {n:Nat} {e:Int} {d u:Nat} (h0:n≠0) (h:902≤e+bl n) (hd:FR d (sgI s 8660422083433463809)) (hu:FR u (sgI s 8660422083433463809)):f9 (s,n,e) d u:=by
 unfold f9;rw[tL s _ h0 h,tL s _ h0 h];exact⟨hd,hu⟩
theorem gM {s:Bool} {n:Nat} (h:n≠0):decide (sg s n<0)=s∧(sg s n).natAbs=n∧sg s n≠0:=by
 unfold sg
 cases s
 ·rw[if_neg Bool.false_ne_true];exact⟨decide_eq_false (by omega),by omega,by omega⟩
 ·rw[if_pos rfl];exact⟨decide_eq_true (by omega),by omega,by omega⟩
theorem FX {m n:Nat} (h1:4503599627370496≤m) (h2:m<9007199254740992) (h3:4503599627370496≤n) (h4:n<9007199254740992):105≤bl (m*n)∧bl (m*n)≤106:=by
 constructor
 ·have:(2:Nat)^104≤m*n:=by
   have:=Nat.mul_le_mul h1 h3;have e:(2:Nat)^104=4503599627370496*4503599627370496:=by decide
   omega
  exact pA this
 ·apply bQ;have:=Nat.mul_lt_mul'' h2 h4;have e:(2:Nat)^106=9007199254740992*9007199254740992:=by decide
  omega
theorem nC {s:Bool} {n:Nat} (e:Int) (h0:n≠0):double.nearest s n e=fd e (sg s n):=by
 obtain⟨a1,a2,a3⟩:=gM (s:=s) h0;unfold fd;rw[a1,a2]
theorem ux (s t:Bool) (m n:Nat) (i j:Int):∃q o,(Datum.sum (.number s m i) (.number t n j)).map double.write=some q∧FloatKind.f64.format.order q 0=some o:=by
 obtain⟨o,ho⟩:=qp (if signed s m (i-min i j).toNat+signed t n (j-min i j).toNat=0 then s && t else decide (signed s m (i-min i j).toNat+signed t n (j-min i j).toNat<0)) (signed s m (i-min i j).toNat+signed t n (j-min i j).toNat).natAbs (min i j);exact⟨_,o,rfl,ho⟩
theorem Bk (s:Bool):FloatKind.f64.format.order (wd (!s) 9218868437227405312) 0=some (if s then .gt else .lt):=by
 cases s<;>rfl
theorem FL {e z:Int} {s:Bool} {n:Nat} {p:Int} (hM:dE e z s n p) (h0:z≠0) (hs:s=decide (z<0)) (he1:-1022≤e) (he2:e+bl z.natAbs≤1019):
  (Datum.sum (.number s n p) (double.read (negW (fd e z)))).map double.write=some (fd e (z-nearI z)):=by
 have hbp:=eK (n:=z.natAbs) (by omega)
 have hN0:nearI z≠0:=by
  have h1:=j4 z;have h2:=(dz (n:=z.natAbs) (by omega)).1;omega
 have hbN:bl (nearI z).natAbs≤bl z.natAbs+1:=by
  rw[j4];exact(dz (n:=z.natAbs) (by omega)).2.2.2
 have hsg:decide (nearI z<0)=decide (z<0):=by
  apply decide_eq_decide.2;by_cases h:z<0
  ·have:=(dW z).1 h;omega
  ·have:=(dW z).2 h;omega
 have hlt:fd e z<18446744073709551616:=by
  obtain⟨R,hR,hR2,_⟩:=fH (decide (z<0)) (n:=z.natAbs) e (by omega);unfold fd;rw[hR];exact kz (by omega)
 rw[kb hlt,←nk h0 he1 (by omega)];obtain⟨t,m,q,h1,h2,h3,h4⟩:=i9 (e:=e) (z:=nearI z) ⟨he1,by omega⟩ (dB z);rw[h1]
 have hd:(z-nearI z).natAbs<2*2^bl z.natAbs:=by
  have:=dP z 0 iQ;have hb:=(bt (n:=z.natAbs) (by omega)).2.1;omega
 have hF:eW e (z+-nearI z):=by
  rw[←Int.sub_eq_add_neg];have:bl (z-nearI z).natAbs≤bl z.natAbs+1:=bQ (by rw[Nat.pow_succ];omega);exact⟨he1,by omega⟩
 have:=jc hM h2.opp hF (by
  intro _;rw[h4 hN0,hsg,hs]
  cases decide (z<0)<;>rfl)
 rw[Int.sub_eq_add_neg];exact this
theorem eN {x y:Nat} {p q:ap} (hx:x<18446744073709551616) (hy:y<18446744073709551616) (px:au x=some p) (py:au y=some q):
  ∃d u,f9 (aT p q) d u∧bF 92 #[fV x,fV y] d u:=by
 by_cases hp0:p.2.1=0
 ·have ho:=fi hx px hp0;refine⟨0,0,lO (by unfold aT;rw[hp0];simp),?_⟩;by_cases hq0:q.2.1=0
  ·exact kn x y _ _ ho (fi hy py hq0) (Or.inl rfl)
  ·exact kn x y _ _ ho (eO hy py hq0).2.1 (Or.inl rfl)
 ·by_cases hq0:q.2.1=0
  ·refine⟨0,0,lO (by unfold aT;rw[hq0];simp),?_⟩;exact kn x y _ _ (eO hx px hp0).2.1 (fi hy py hq0) (Or.inr rfl)
  ·obtain⟨sx,mx,ex⟩:=p;obtain⟨sy,my,ey⟩:=q;obtain⟨rx,ox,x1,x2,x3,x4⟩:=eO hx px hp0;obtain⟨ry,oy,y1,y2,y3,y4⟩:=eO hy py hq0;simp only at*;have hn:=Nat.mul_ne_zero hp0 hq0;have hb:=FX x1 x2 y1 y2
   have hpn:aT (sx,mx,ex) (sy,my,ey)=(sx^^sy,mx*my,ex+ey):=by
    unfold aT;simp only;rw[decide_eq_true hn,Bool.and_true]
   rw[hpn]
   have hmul:double.mul x y=some (double.nearest (sx^^sy) (mx*my) (ex+ey)):=by
    unfold Format.mul;rw[rx,ry];rfl
   have hfma:∀z,double.fma x y z=((Datum.number (sx^^sy) (mx*my) (ex+ey)).sum (double.read z)).map double.write:=by
    intro z;unfold Format.fma;rw[rx,ry];rfl
   have hlost:=uF x y sx sy;have hmain:=uR x y sx sy;generalize(sx^^sy)=s at*;obtain⟨R,hR,hR2,hmid,htin,hhug⟩:=fH s (ex+ey) hn;have rb:=cJ (ex+ey) hn;rw[hR] at hmul
   have hup:-1021≤ex+ey+bl (mx*my)→ex+ey+bl (mx*my)≤1023→rung (mx*my) (ex+ey)≤R∧(R:Int)≤rung (mx*my) (ex+ey)+1:=by
    intro h1 h2;have:=hmid h1 h2;split at this<;>omega
   have hneg:double.read (negW (wd s R))=(double.read (wd s R)).opposite:=kb (kz (by omega));by_cases hl:R<103582791429521408
   ·exact⟨_,_,l7 s hn (by omega) (kL s (by omega) (by omega)) (kL s (by omega) (by omega)),hlost s R ox oy hmul hl⟩
   ·have hq:=hfma (negW (wd s R));by_cases he1:ex+ey< -1022
    ·obtain⟨m',i',r1,_,_⟩:=jJ (s:=s) (r:=R) (by omega);obtain⟨q,o,q1,q2⟩:=ux s (!s) (mx*my) m' (ex+ey) i';rw[hneg,r1] at hq;obtain⟨d,u,hd,hu,hG⟩:=pW s R q o (by omega) (by omega) q2;exact⟨d,u,l7 s hn (by omega) hd hu,hmain s R q d u ox oy hmul hl hR2 (hq.trans q1) hG⟩
    ·by_cases he2:904<ex+ey
     ·by_cases hinf:R=9218868437227405312
      ·subst hinf;have r1:=fJ s;rw[hneg,r1] at hq;obtain⟨d,u,hd,hu,hG⟩:=jX s 9218868437227405312 (wd (!s) 9218868437227405312) _ (by omega) (by omega) (Bk s) (fun _=>rfl);refine⟨d,u,l9 s hn (by omega) hd hu,hmain s _ _ d u ox oy hmul hl hR2 (hq.trans ?_) hG⟩
       cases s<;>rfl
      ·obtain⟨m',i',r1,_,_⟩:=jJ (s:=s) (r:=R) (by omega);obtain⟨q,o,q1,q2⟩:=ux s (!s) (mx*my) m' (ex+ey) i';rw[hneg,r1] at hq;obtain⟨d,u,hd,hu,hG⟩:=jX s R q o (by omega) (by omega) q2 (fun h=>absurd h hinf);exact⟨d,u,l9 s hn (by omega) hd hu,hmain s R q d u ox oy hmul hl hR2 (hq.trans q1) hG⟩
     ·obtain⟨a1,a2,a3⟩:=gM (s:=s) hn;have hfd:=nC (s:=s) (ex+ey) hn;have hrest:=FL (e:=ex+ey) (z:=sg s (mx*my)) (s:=s) (n:=mx*my) (p:=ex+ey) (fun c _ _=>(bG _ _ _).symm) a3 a1.symm (by omega) (by rw[a2];omega);rw[←hfd,hR] at hrest;rw[hrest] at hq;have hlt:=Nat.lt_of_lt_of_le (bt (Nat.pos_of_ne_zero hn)).2.1 (cW hb.2);have hnb:=dP (sg s (mx*my)) 0 iQ;obtain⟨d,u,hE,hG⟩:=mg (e:=ex+ey) (z:=sg s (mx*my)) (M:=106) (by omega) (by omega) (by omega) (by omega);rw[←hfd,hR] at hG;refine⟨d,u,?_,hmain s R _ d u ox oy hmul hl hR2 hq hG⟩;unfold oM at hE;rw[a1,a2] at hE;exact hE
end
section
open Go.RowKit Go.Extern Ieee
attribute [local go_sem] av
theorem tj (x y:Nat) (hx:FloatKind.f64.format.order x 0=some .eq):bF 94 #[fV x,fV y] 0 0:=by
 intro w;go_enter Tryz.func94,Tryz.ntmps94;go_wp2;refine bodyPost_ret (v:=gF 0 0) (by simp[results,Tryz.results94,go_sem]) rfl ?_;exact⟨rfl,aK.alloc ae _⟩
theorem sM (x y:Nat) (sx sy:Bool) (s:Bool) (R:Nat) (hx:FloatKind.f64.format.order x 0=some (if sx then .lt else .gt)) (hy:FloatKind.f64.format.order y 0=some (if sy then .lt else .gt)) (hm:double.div x y=some (wd s R)) (hR:R<103582791429521408):
  bF 94 #[fV x,fV y] (wd (sx^^sy) 103582791429521408) (wd (sx^^sy) 103582791429521408):=by
 intro w;have g1:∀w,(binOp .quo 65 (fV x) (fV y)).run Tryz.prog w= .ok (fV (wd s R)) w:=fun w=>run_float_arith w .quo _ .f64 x y _ hm
 have hL:=kD s R;rw[decide_eq_true hR] at hL;have HL:=hid (wL (sx^^sy));have hR:R≤9218868437227405312:=by omega
 generalize wd (sx^^sy) 103582791429521408=l at*;clear hm;generalize wd s R=b at*
 cases sx<;>cases sy
 iterate 4
  ·have hx':=hx;have hy':=hy;clear hx hy;go_enter Tryz.func94,Tryz.ntmps94;go_wp2_with fail;refine (hL _ hR).mono ?_;rintro e w' ⟨rfl,rfl⟩;go_wp2_with fail;refine (HL.out _).mono ?_;rintro e w1 ⟨rfl,hb1⟩;have B0:=aa (af w _) hb1;obtain⟨k0,k1,k2,k3⟩:=aj B0;have HB1:=hid (aJ.trans (hb1.mono (by simp)));clear hb1 B0 HL;go_wp2;refine bodyPost_ret (v:=gF l l) (by simp[results,Tryz.results94,go_sem,k0,k1]) rfl ?_;exact⟨rfl,(HB1.out.setCell (by simp) _).setCell (by simp) _⟩
theorem sD (x y:Nat) (sx sy:Bool) (s:Bool) (R q d u:Nat) (hx:FloatKind.f64.format.order x 0=some (if sx then .lt else .gt)) (hy:FloatKind.f64.format.order y 0=some (if sy then .lt else .gt)) (hm:double.div x y=some (wd s R)) (hR:¬R<103582791429521408) (hR2:R≤9218868437227405312) (hq:double.fma (negW (wd s R)) y x=some q)
  (hA:bF 141 #[fV (wd s R),fV (if sy then negW q else q)] d u):bF 94 #[fV x,fV y] d u:=by
 intro w;have g1:∀w,(binOp .quo 65 (fV x) (fV y)).run Tryz.prog w= .ok (fV (wd s R)) w:=fun w=>run_float_arith w .quo _ .f64 x y _ hm
 have hF:=@run_callFunc_extern Tryz.prog 144 _ MathFMA.fma Tryz.func144 (by kernel_rfl) (by kernel_rfl) (by kernel_rfl) (by kernel_rfl);have cF:∀w,(MathFMA.fma #[fV (negW (wd s R)),fV y,fV x]).run Tryz.prog w= .ok (fV q) w:=fun w=>z8 w hq
 have cN:∀w,(Op.unary .neg (fV (wd s R))).run Tryz.prog w= .ok (fV (negW (wd s R))) w:=fun w=>cm w _
 have cQ:∀w,(Op.unary .neg (fV q)).run Tryz.prog w= .ok (fV (negW q)) w:=fun w=>cm w _
 have hL:=kD s R;rw[decide_eq_false hR] at hL;have HA:=hid hA;clear hm hq hA;generalize negW (wd s R)=nb at*;generalize negW q=nq at*;generalize wd s R=b at*
 cases sx<;>cases sy
 iterate 4
  ·have hx':=hx;have hy':=hy;clear hx hy;go_enter Tryz.func94,Tryz.ntmps94;go_wp2_with fail;refine (hL _ hR2).mono ?_;rintro e w' ⟨rfl,rfl⟩;go_wp2_with fail;refine (HA.out _).mono ?_;rintro e w1 ⟨rfl,hb1⟩;have B0:=aa (af w _) hb1;obtain⟨k0,k1,k2,k3⟩:=aj B0;have HB1:=hid (aJ.trans (hb1.mono (by simp)));clear hb1 B0 HA;go_wp2;refine bodyPost_ret (v:=gF d u) (by simp[results,Tryz.results94,go_sem,k0,k1]) rfl ?_;exact⟨rfl,(HB1.out.setCell (by simp) _).setCell (by simp) _⟩
theorem Gg {P:Program} (w:World) {x r:Nat} (h:double.sqrt x=some r):(MathSqrt.sqrt #[fV x]).run P w= .ok (fV r) w:=by
 have h':FloatKind.f64.format.sqrt x=some r:=h
 delta MathSqrt.sqrt MathSqrt.sqrt.match_2
 simp only[Array.getLit,List.size_toArray,List.length_cons,List.length_nil,Nat.zero_add,dite_true,List.getElem_toArray,List.getElem_cons_zero]
 delta MathSqrt.sqrt._sparseCasesOn_2 MathSqrt.sqrt._sparseCasesOn_3
 dsimp only;rw[h']
 rfl
theorem A4 (x r:Nat) (w:World) (h:double.sqrt x=some r):ax 145 #[fV x] w fun e w'=>e= .returned (fV r)∧w'=w:=by
 have hF:=@run_callFunc_extern Tryz.prog 174 _ MathSqrt.sqrt Tryz.func174 (by kernel_rfl) (by kernel_rfl) (by kernel_rfl) (by kernel_rfl);have cF:∀w,(MathSqrt.sqrt #[fV x]).run Tryz.prog w= .ok (fV r) w:=fun w=>Gg w h
 go_enter Tryz.func145,Tryz.ntmps145;go_wp2
 go_ret
 exact⟨rfl,rfl⟩
theorem ur (x b q d u:Nat) (hr:double.sqrt x=some b) (hq:double.fma (negW b) b x=some q) (hA:bF 141 #[fV b,fV q] d u):bF 95 #[fV x] d u:=by
 intro w;have hF:=@run_callFunc_extern Tryz.prog 144 _ MathFMA.fma Tryz.func144 (by kernel_rfl) (by kernel_rfl) (by kernel_rfl) (by kernel_rfl);have cF:∀w,(MathFMA.fma #[fV (negW b),fV b,fV x]).run Tryz.prog w= .ok (fV q) w:=fun w=>z8 w hq
 have cN:∀w,(Op.unary .neg (fV b)).run Tryz.prog w= .ok (fV (negW b)) w:=fun w=>cm w _
 have hS:=fun w=>A4 x b w hr
 have HA:=hid hA;clear hr hq hA;generalize negW b=nb at*;go_enter Tryz.func95,Tryz.ntmps95;go_wp2_with fail;refine (hS _).mono ?_;rintro e w' ⟨rfl,rfl⟩;go_wp2_with fail;refine (HA.out _).mono ?_;rintro e w1 ⟨rfl,hb1⟩;have B0:=aa (af w _) hb1;obtain⟨k0,k1,k2,k3⟩:=aj B0;have HB1:=hid (aJ.trans (hb1.mono (by simp)));clear hb1 B0 HA;go_wp2;refine bodyPost_ret (v:=gF d u) (by simp[results,Tryz.results95,go_sem,k0,k1]) rfl ?_;exact⟨rfl,(HB1.out.setCell (by simp) _).setCell (by simp) _⟩
end
section
open Go.RowKit Go.Extern Ieee
def cM (c:Nat) (ex:Prop) (k N:Nat):Prop:=(ex∧N=c*2^k)∨(¬ex∧c*2^k<N∧N<(c+1)*2^k)
theorem cM.ne {c:Nat} {ex:Prop} {k N:Nat} (h:cM c ex k N) (hc:4503599627370496≤c):N≠0:=by
 have hp:=Nat.two_pow_pos k;rcases h with⟨_,rfl⟩|⟨_,h1,_⟩
 ·exact Nat.mul_ne_zero (by omega) (by omega)
 ·omega
theorem cM.bl {c:Nat} {ex:Prop} {k N:Nat} (h:cM c ex k N) (hc:4503599627370496≤c):bl N=bl c+k:=by
 rcases h with⟨_,rfl⟩|⟨_,h1,h2⟩
 ·exact cz (by omega) k
 ·exact(Dn hc h1 h2).1
theorem cM.endR {c:Nat} {ex:Prop} {k l N M:Nat} (h:cM c ex k N) (g:cM c ex l M) (hc:4503599627370496≤c) (s:Bool) (e f way:Int) (he:e+k=f+l):endR s N e way=endR s M f way:=by
 rcases h with⟨x,rfl⟩|⟨x,h1,h2⟩
 ·rcases g with⟨_,rfl⟩|⟨y,_⟩
  ·rw[kC s (by omega),kC s (by omega),he]
  ·exact absurd x y
 ·rcases g with⟨y,_⟩|⟨_,g1,g2⟩
  ·exact absurd y x
  ·rw[sf s hc h1 h2,sf s hc g1 g2,he]
theorem cM.posV {c:Nat} {ex:Prop} {k l N M:Nat} (h:cM c ex k N) (g:cM c ex l M) (hc:4503599627370496≤c) (s:Bool) (e f way:Int) (he:e+k=f+l):ar (s,N,e) way=ar (s,M,f) way:=by
 unfold Go.Proofs.YtonhpkigoplmaaaGreatDoor.ar;rw[if_neg (h.ne hc),if_neg (g.ne hc)];simp only;rw[h.endR g hc s e f way he]
theorem cM.ends {c:Nat} {ex:Prop} {k l N M:Nat} (h:cM c ex k N) (g:cM c ex l M) (hc:4503599627370496≤c) {s:Bool} {e f:Int} {d u:Nat} (he:e+k=f+l) (hE:f9 (s,N,e) d u):f9 (s,M,f) d u:=by
 unfold f9 at*;rw[←h.posV g hc s e f (-1) he,←h.posV g hc s e f 1 he];exact hE
theorem rI {n:Nat} (h:54≤bl n):nearM n % 2=0:=by
 unfold nearM;rw[if_neg (by omega),show bl n-53=(bl n-54)+1 by omega,Nat.pow_succ,←Nat.mul_assoc];omega
theorem Bu {A B c M N1:Nat} (hB:0<B) (hM:M % 2=0) (h:(A=2*c*B∧N1=2*c)∨(2*c*B<A∧A<(2*c+2)*B∧N1=2*c+1)):(N1<M↔A<M*B)∧(N1=M↔A=M*B):=by
 rcases h with⟨rfl,rfl⟩|⟨h1,h2,rfl⟩
 ·constructor
  ·exact(Nat.mul_lt_mul_right hB).symm
  ·exact(Nat.mul_right_cancel_iff hB).symm
 ·rcases(show M≤2*c∨2*c+2≤M by omega) with h|h
  ·have:=Nat.mul_le_mul_right B h;constructor
   ·constructor<;>intro _<;>omega
   ·constructor<;>intro _<;>omega
  ·have:=Nat.mul_le_mul_right B h;constructor
   ·constructor<;>intro _<;>omega
   ·constructor<;>intro _<;>omega
theorem vh {m n c k:Nat} (hn:0<n) (hc:c=m / n):cM c (m % n=0) (k+1) (2*(m*2^k / n)+if m*2^k % n=0 then 0 else 1):=by
 have hp:=Nat.two_pow_pos k;have hd:=Nat.div_add_mod m n;have hl:=Nat.mod_lt m hn;have hd2:=Nat.div_add_mod (m*2^k) n;have hl2:=Nat.mod_lt (m*2^k) hn;rw[←hc] at hd;rw[cM,Nat.pow_succ];generalize 2^k=g at*;by_cases h0:m % n=0
 ·left;refine⟨h0,?_⟩;rw[h0,Nat.add_zero] at hd;have e:m*g=n*(c*g):=by rw[←hd,Nat.mul_assoc]
  rw[e,Nat.mul_mod_right,if_pos rfl,Nat.mul_div_cancel_left _ hn,Nat.add_zero,←Nat.mul_assoc c,Nat.mul_comm]
 ·right;refine⟨h0,?_⟩
  have a1:n*(c*g)<m*g:=by
   rw[←Nat.mul_assoc];exact Nat.mul_lt_mul_of_pos_right (by omega) hp
  have a2:m*g<n*((c+1)*g):=by
   rw[←Nat.mul_assoc];exact Nat.mul_lt_mul_of_pos_right (by rw[Nat.mul_add];omega) hp
  generalize m*g / n=Q at*;generalize m*g % n=r at*
  have b1:c*g≤Q:=by
   have:n*(c*g)<n*(Q+1):=by rw[Nat.mul_add];omega
   have:=Nat.lt_of_mul_lt_mul_left this;omega
  have b2:Q<(c+1)*g:=by
   have:n*Q<n*((c+1)*g):=by omega
   exact Nat.lt_of_mul_lt_mul_left this
  have e1:c*(g*2)=2*(c*g):=by rw[←Nat.mul_assoc,Nat.mul_comm]
  have e2:(c+1)*(g*2)=2*((c+1)*g):=by rw[←Nat.mul_assoc,Nat.mul_comm]
  rw[e1,e2];by_cases hr:r=0
  ·rw[if_pos hr]
   have:c*g≠Q:=by
    rintro rfl;omega
   omega
  ·rw[if_neg hr];omega
def gT (s:Bool) (q:Nat) (e:Int) (whole:Bool):ap:=(s && decide (2*q+(if whole then 0 else 1)≠0),2*q+(if whole then 0 else 1),e-1)
def quoN (x y:ap):ap:=
 gT (x.1 !=y.1) (x.2.1*2^(60+bl y.2.1) / y.2.1) (x.2.2-(60+bl y.2.1:Nat)-y.2.2) (decide (x.2.1*2^(60+bl y.2.1) % y.2.1=0))
theorem qW {q:Nat} {o:Ordering} (hq:q<18446744073709551616) (hn:q % 9223372036854775808≤9218868437227405312) (h:FloatKind.f64.format.order q 0=some o):FloatKind.f64.format.order (negW q) 0=some o.swap:=by
 have hz:(0:Nat)=wd false 0:=rfl
 have e:∀x:Int,compare (-x) 0=(compare x 0).swap:=by
  intro x;rcases(show x<0∨x=0∨0<x by omega) with h|h|h
  ·rw[bX h,bJ (show(0:Int)< -x by omega)];rfl
  ·rw[cR h,cR (show -x=0 by omega)];rfl
  ·rw[bJ h,bX (show -x<(0:Int) by omega)];rfl
 change double.order q 0=some o at h
 show double.order (negW q) 0=_
 rw[←gZ hq] at h⊢;rw[hz] at h⊢;rw[pF (by omega),iO hn (by omega)];rw[iO hn (by omega)] at h
 cases h
 have e1:sg false 0=0:=rfl;rw[e1,←e]
 congr 2
 unfold sg
 cases decide (9223372036854775808≤q)<;>simp
theorem qU (s:Bool) (n:Nat) (e:Int):double.nearest s n e<18446744073709551616∧double.nearest s n e % 9223372036854775808≤9218868437227405312:=by
 have key:∀R,R≤9218868437227405312→wd s R<18446744073709551616∧wd s R % 9223372036854775808≤9218868437227405312:=by
  intro R h;have:wd s R % 9223372036854775808=R:=by unfold wd;split<;>omega
  exact⟨kz (by omega),by omega⟩
 by_cases h0:n=0
 ·subst h0;have:double.nearest s 0 e=wd s 0:=by cases s<;>rfl
  rw[this];exact key 0 (by omega)
 ·obtain⟨R,h1,h2,_⟩:=fH s e h0;rw[h1];exact key R h2
theorem zQ (s t:Bool) (m n:Nat) (i j:Int):∃q o,(Datum.sum (.number s m i) (.number t n j)).map double.write=some q∧FloatKind.f64.format.order q 0=some o∧q<18446744073709551616∧q % 9223372036854775808≤9218868437227405312:=by
 obtain⟨o,ho⟩:=qp (if signed s m (i-min i j).toNat+signed t n (j-min i j).toNat=0 then s && t else decide (signed s m (i-min i j).toNat+signed t n (j-min i j).toNat<0)) (signed s m (i-min i j).toNat+signed t n (j-min i j).toNat).natAbs (min i j);obtain⟨h1,h2⟩:=qU (if signed s m (i-min i j).toNat+signed t n (j-min i j).toNat=0 then s && t else decide (signed s m (i-min i j).toNat+signed t n (j-min i j).toNat<0)) (signed s m (i-min i j).toNat+signed t n (j-min i j).toNat).natAbs (min i j);exact⟨_,o,rfl,ho,h1,h2⟩
theorem Av (s t:Bool) (m n:Nat) (i j:Int) (b:Bool):∃q o,(Datum.sum (.number s m i) (.number t n j)).map double.write=some q∧FloatKind.f64.format.order (if b then negW q else q) 0=some o:=by
 obtain⟨q,o,h0,ho,h1,h2⟩:=zQ s t m n i j
 cases b
 ·refine⟨q,o,h0,?_⟩;rw[if_neg Bool.false_ne_true];exact ho
 ·refine⟨q,o.swap,h0,?_⟩;rw[if_pos rfl];exact qW h1 h2 ho
def ow (z:Int):Ordering:=if z=0 then .eq else if z<0 then .lt else .gt
theorem zy {s:Bool} {x y:Int} (h1:x<0↔y<0) (h2:x=0↔y=0):ow (if s then -x else x)=ow (if s then -y else y):=by
 unfold ow
 cases s
 ·simp only[Bool.false_eq_true,if_false];by_cases hx:x=0
  ·rw[if_pos hx,if_pos (h2.1 hx)]
  ·rw[if_neg hx,if_neg (fun h=>hx (h2.2 h))];by_cases hl:x<0
   ·rw[if_pos hl,if_pos (h1.1 hl)]
   ·rw[if_neg hl,if_neg (fun h=>hl (h1.2 h))]
 ·simp only[if_true];by_cases hx:x=0
  ·have:=h2.1 hx;rw[if_pos (show -x=0 by omega),if_pos (show -y=0 by omega)]
  ·have hy:¬y=0:=fun h=>hx (h2.2 h)
   rw[if_neg (show¬-x=0 by omega),if_neg (show¬-y=0 by omega)];by_cases hl:x<0
   ·have:=h1.1 hl;rw[if_neg (show¬-x<0 by omega),if_neg (show¬-y<0 by omega)]
   ·have:¬y<0:=fun h=>hl (h1.2 h)
    rw[if_pos (show -x<0 by omega),if_pos (show -y<0 by omega)]
theorem CG (x:Int):(ow x).swap=ow (-x):=by
 unfold ow;rcases(show x<0∨x=0∨0<x by omega) with h|h|h
 ·rw[if_neg (by omega),if_pos h,if_neg (by omega),if_neg (by omega)];rfl
 ·rw[if_pos h,if_pos (by omega)];rfl
 ·rw[if_neg (by omega),if_neg (by omega),if_neg (by omega),if_pos (by omega)];rfl
def q1 (m n:Nat):Nat:=2*(m*2^54 / n)+if m*2^54 % n=0 then 0 else 1
theorem lN {m n:Nat} (h1:4503599627370496≤m) (h2:m<9007199254740992) (h3:4503599627370496≤n) (h4:n<9007199254740992):
  9007199254740992≤m*2^54 / n∧m*2^54 / n<36028797018963968:=by
 have p54:(2:Nat)^54=18014398509481984:=by decide
 rw[p54];constructor
 ·rw[Nat.le_div_iff_mul_le (by omega)];omega
 ·rw[Nat.div_lt_iff_lt_mul (by omega)];omega
theorem u9 {m n:Nat} (h1:4503599627370496≤m) (h2:m<9007199254740992) (h3:4503599627370496≤n) (h4:n<9007199254740992):55≤bl (q1 m n)∧bl (q1 m n)≤56:=by
 obtain⟨c1,c2⟩:=lN h1 h2 h3 h4;have p54:(2:Nat)^54=18014398509481984:=by decide
 have p56:(2:Nat)^56=72057594037927936:=by decide
 constructor
 ·apply pA;rw[p54];unfold q1;omega
 ·apply bQ;rw[p56];unfold q1;split<;>omega
theorem oN {x y:Nat} {sx sy:Bool} {mx my:Nat} {ex ey:Int} (rx:double.read x= .number sx mx ex) (ry:double.read y= .number sy my ey) (x1:4503599627370496≤mx) (x2:mx<9007199254740992) (y1:4503599627370496≤my) (y2:my<9007199254740992):
  double.div x y=some (double.nearest (sx^^sy) (q1 mx my) (ex-ey-55)):=by
 have l1:=kQ (n:=mx) (by omega);have l2:=kQ (n:=my) (by omega);rw[eB x1 x2] at l1;rw[eB y1 y2] at l2;have hfb:double.fractionBits=52:=rfl;unfold Format.div;rw[rx,ry];simp only[Datum.quotient,hfb];rw[if_neg (by omega),show 52+2+my.log2-mx.log2=54 by omega,Nat.shiftLeft_eq];simp only[Option.map_some,Format.write];have e1:ex-ey-((54:Nat):Int)-1=ex-ey-55:=by omega
 have e2:2*(mx*2^54 / my)+(mx*2^54 % my !=0).toNat=q1 mx my:=by
  unfold q1;by_cases h:mx*2^54 % my=0
  ·rw[h,if_pos rfl];rfl
  ·rw[if_neg h,(bne_iff_ne).2 h];rfl
 rw[e1,e2]
theorem DD {m n:Nat} (h1:4503599627370496≤m) (h2:m<9007199254740992) (h3:4503599627370496≤n) (h4:n<9007199254740992):
  (q1 m n<nearM (q1 m n)↔m*2^55<nearM (q1 m n)*n)∧(q1 m n=nearM (q1 m n)↔m*2^55=nearM (q1 m n)*n):=by
 have hd:=Nat.div_add_mod (m*2^54) n;have hl:=Nat.mod_lt (m*2^54) (show 0<n by omega);have e55:m*2^55=2*(m*2^54):=by rw[Nat.pow_succ 2 54,←Nat.mul_assoc,Nat.mul_comm]
 refine Bu (c:=m*2^54 / n) (by omega) (rI (by have:=u9 h1 h2 h3 h4;omega)) ?_;rw[e55];have a1:2*(m*2^54 / n)*n=2*(n*(m*2^54 / n)):=by rw[Nat.mul_assoc,Nat.mul_comm n]
 have a2:(2*(m*2^54 / n)+2)*n=2*(n*(m*2^54 / n))+2*n:=by rw[Nat.add_mul,a1]
 rw[a1,a2];unfold q1;by_cases h0:m*2^54 % n=0
 ·left;rw[if_pos h0];exact⟨by omega,by omega⟩
 ·right;rw[if_neg h0];exact⟨by omega,by omega,rfl⟩
theorem Dd (s:Bool) (a b:Nat):sg s a-sg s b=if s then -((a:Int)-b) else(a:Int)-b:=by
 unfold sg
 cases s
 ·rfl
 ·simp only[if_true];omega
theorem uY (e z:Int):fd e z<18446744073709551616∧fd e z % 9223372036854775808≤9218868437227405312:=qU _ _ _
theorem Ga {sx sy:Bool} {f:Nat} {A:Int} (h1:f<18446744073709551616) (h2:f % 9223372036854775808≤9218868437227405312) (h:FloatKind.f64.format.order f 0=some (ow (if sx then -A else A))):
  FloatKind.f64.format.order (if sy then negW f else f) 0=some (ow (if(sx^^sy) then -A else A)):=by
 cases sy
 ·rw[if_neg Bool.false_ne_true,Bool.xor_false];exact h
 ·rw[if_pos rfl,Bool.xor_true];have:=qW h1 h2 h;rw[CG] at this;rw[this]
  cases sx
  ·rw[if_neg Bool.false_ne_true,Bool.not_false,if_pos rfl]
  ·rw[if_pos rfl,Int.neg_neg,Bool.not_true,if_neg Bool.false_ne_true]
theorem sQ {a b c:Nat} {s t r:Bool} {m n k:Nat} {i j l:Int} (h1:double.read a= .number s m i) (h2:double.read b= .number t n j) (h3:double.read c= .number r k l):
  double.fma a b c=(Datum.sum (.number (s^^t) (m*n) (i+j)) (.number r k l)).map double.write:=by
 unfold Format.fma;rw[h1,h2,h3];rfl
theorem Ew {x y:Nat} {sx sy:Bool} {mx my:Nat} {ex ey:Int} (rx:double.read x= .number sx mx ex) (ry:double.read y= .number sy my ey) (x1:4503599627370496≤mx) (x2:mx<9007199254740992) (y1:4503599627370496≤my) (y2:my<9007199254740992) (x3:-952≤ex) (x4:ex≤848) (he1:-1022≤ex-ey-55) (he2:ex-ey-55≤940):
  ∃q,double.fma (negW (double.nearest (sx^^sy) (q1 mx my) (ex-ey-55))) y x=some q∧FloatKind.f64.format.order (if sy then negW q else q) 0=some (gk (sx^^sy) (q1 mx my)):=by
 have hbl:=u9 x1 x2 y1 y2
 have hn:q1 mx my≠0:=by
  intro h;rw[h] at hbl;have:bl 0=0:=rfl;omega
 obtain⟨a1,a2,a3⟩:=gM (s:=(sx^^sy)) hn;have hN0:=(dz hn).1;have hNb:=(dz hn).2.2.2;have habs:=j4 (sg (sx^^sy) (q1 mx my));rw[a2] at habs
 have hI:nearI (sg (sx^^sy) (q1 mx my))=sg (sx^^sy) (nearM (q1 mx my)):=by
  unfold nearI;rw[a1,a2]
 obtain⟨b1,b2,b3⟩:=gM (s:=(sx^^sy)) hN0;have hfd:=nC (s:=(sx^^sy)) (ex-ey-55) hn;have hnf:=nk (e:=ex-ey-55) (z:=sg (sx^^sy) (q1 mx my)) a3 he1 (by rw[a2];omega);rw[hI] at hnf;rw[hfd,←hnf];have hrep:Rep (sg (sx^^sy) (nearM (q1 mx my))):=by rw[←hI];exact dB _
 obtain⟨t,m,p,h1,h2,h3,h4⟩:=i9 (e:=ex-ey-55) (z:=sg (sx^^sy) (nearM (q1 mx my))) ⟨he1,by rw[b2];omega⟩ hrep;have ht:t=(sx^^sy):=by rw[h4 b3,b1]
 have hlt:fd (ex-ey-55) (sg (sx^^sy) (nearM (q1 mx my)))<18446744073709551616:=(uY _ _).1
 have hM1:dE (ex-55) (-sg (sx^^sy) (nearM (q1 mx my))*sg sy my) ((!t)^^sy) (m*my) (p+ey):=by
  have:=oK h2.opp (show dE ey (sg sy my) sy my ey from fun c _ _=>(bG _ _ _).symm);rwa [show ex-ey-55+ey=ex-55 by omega] at this
 have hM2:=ou (show dE ex (sg sx mx) sx mx ex from fun c _ _=>(bG _ _ _).symm) 55
 have htot:-sg (sx^^sy) (nearM (q1 mx my))*sg sy my+sg sx mx*((2^55:Nat):Int)=if sx then -(((mx*2^55:Nat):Int)-((nearM (q1 mx my)*my:Nat):Int)) else((mx*2^55:Nat):Int)-((nearM (q1 mx my)*my:Nat):Int):=by
  rw[Int.neg_mul,←tE,bG,←Dd];have:((sx^^sy)^^sy)=sx:=by cases sx<;>cases sy<;>rfl
  rw[this];omega
 have hsz:(-sg (sx^^sy) (nearM (q1 mx my))*sg sy my+sg sx mx*((2^55:Nat):Int)).natAbs<2^111:=by
  rw[htot]
  have u1:mx*2^55<2^110:=by
   have:mx*2^55<2^53*2^55:=Nat.mul_lt_mul_of_pos_right (by rw[p53];exact x2) (Nat.two_pow_pos _);rw[←Nat.pow_add] at this;exact Nat.lt_of_lt_of_le this (cW (by omega))
  have u2:nearM (q1 mx my)*my<2^110:=by
   have v1:nearM (q1 mx my)<2^57:=Nat.lt_of_lt_of_le (bt (Nat.pos_of_ne_zero hN0)).2.1 (cW (by omega));have:nearM (q1 mx my)*my<2^57*2^53:=Nat.mul_lt_mul'' v1 (by rw[p53];exact y2);rwa [←Nat.pow_add] at this
  have u3:(2:Nat)^111=2*2^110:=by rw[Nat.pow_succ 2 110,Nat.mul_comm]
  generalize(2:Nat)^110=g at*;generalize mx*2^55=a at*;generalize nearM (q1 mx my)*my=b at*;split<;>omega
 have hbt:=bQ hsz;have hF:eW (ex-55) (-sg (sx^^sy) (nearM (q1 mx my))*sg sy my+sg sx mx*((2^55:Nat):Int)):=⟨by omega,by omega⟩
 have hsum:=jc hM1 hM2 hF (by
  intro _;rw[ht]
  cases sx<;>cases sy<;>rfl)
 have hord:=qR hF (by omega);have hq2:=uY (ex-55) (-sg (sx^^sy) (nearM (q1 mx my))*sg sy my+sg sx mx*((2^55:Nat):Int));clear hF hbt hsz;generalize -sg (sx^^sy) (nearM (q1 mx my))*sg sy my+sg sx mx*((2^55:Nat):Int)=T at*;refine⟨fd (ex-55) T,?_,?_⟩
 ·have hr:=kb hlt;rw[h1] at hr;rw[sQ hr ry rx];exact hsum
 ·have hside:=pi (sg (sx^^sy) (q1 mx my));rw[a1,a2,hI,Dd] at hside;rw[←hside];obtain⟨s1,s2⟩:=DD x1 x2 y1 y2;refine Ga hq2.1 hq2.2 ?_;rw[hord,htot]
  congr 1
  apply zy
  ·omega
  ·omega
theorem vf {s:Bool} {q:Nat} {e:Int} {b:Bool} (h:2*q+(if b then 0 else 1)≠0):gT s q e b=(s,2*q+(if b then 0 else 1),e-1):=by
 unfold gT;rw[decide_eq_true h,Bool.and_true]
theorem kG (p:Prop) [Decidable p]:(if(decide p)=true then(0:Nat) else 1)=if p then 0 else 1:=by
 by_cases h:p
 ·rw[decide_eq_true h,if_pos rfl,if_pos h]
 ·rw[decide_eq_false h,if_neg Bool.false_ne_true,if_neg h]
theorem C9 {sx sy:Bool} {mx my:Nat} {ex ey:Int} (x1:4503599627370496≤mx) (x2:mx<9007199254740992) (y1:4503599627370496≤my) (y2:my<9007199254740992):
  ∃N,quoN (sx,mx,ex) (sy,my,ey)=((sx^^sy),N,ex-ey-55-59)∧cM (mx*2^54 / my) (mx*2^54 % my=0) 1 (q1 mx my)∧cM (mx*2^54 / my) (mx*2^54 % my=0) 60 N:=by
 have h1:=vh (m:=mx*2^54) (n:=my) (k:=0) (by omega) rfl;have h2:=vh (m:=mx*2^54) (n:=my) (k:=59) (by omega) rfl;rw[Nat.pow_zero,Nat.mul_one] at h1;rw[Nat.mul_assoc,←Nat.pow_add] at h2;obtain⟨c1,c2⟩:=lN x1 x2 y1 y2;have hne:=h2.ne (by omega);refine⟨_,?_,h1,h2⟩;unfold quoN;simp only;rw[eB y1 y2]
 have hne':2*(mx*2^(60+53) / my)+(if(decide (mx*2^(60+53) % my=0))=true then 0 else 1)≠0:=by
  rw[kG];exact hne
 rw[vf hne',kG]
 congr 2
 omega
theorem fb {x y:Nat} {p q:ap} (hx:x<18446744073709551616) (hy:y<18446744073709551616) (px:au x=some p) (py:au y=some q) (hq0:q.2.1≠0):
  ∃d u,f9 (quoN p q) d u∧bF 94 #[fV x,fV y] d u:=by
 by_cases hp0:p.2.1=0
 ·have ho:=fi hx px hp0;refine⟨0,0,lO ?_,tj x y ho⟩;unfold quoN gT;simp only;rw[hp0,Nat.zero_mul,Nat.zero_div,Nat.zero_mod];rfl
 ·obtain⟨sx,mx,ex⟩:=p;obtain⟨sy,my,ey⟩:=q;obtain⟨rx,ox,x1,x2,x3,x4⟩:=eO hx px hp0;obtain⟨ry,oy,y1,y2,y3,y4⟩:=eO hy py hq0;simp only at*;obtain⟨N,hN,k1,k2⟩:=C9 (sx:=sx) (sy:=sy) (ex:=ex) (ey:=ey) x1 x2 y1 y2;have hc:4503599627370496≤mx*2^54 / my:=by have:=(lN x1 x2 y1 y2).1;omega
  have hn:=k1.ne hc;have hb:=u9 x1 x2 y1 y2;rw[hN]
  suffices h:∃d u,f9 ((sx^^sy),q1 mx my,ex-ey-55) d u∧bF 94 #[fV x,fV y] d u by
   obtain⟨d,u,hE,hG⟩:=h;exact⟨d,u,k1.ends k2 hc (by omega) hE,hG⟩
  have hdiv:=oN rx ry x1 x2 y1 y2;have hrest:=Ew rx ry x1 x2 y1 y2 x3 x4;have hlost:=sM x y sx sy;have hmain:=sD x y sx sy;obtain⟨R,hR,hR2,hmid,htin,hhug⟩:=fH (sx^^sy) (ex-ey-55) hn;rw[hR] at hdiv hrest;have rb:=cJ (ex-ey-55) hn
  have hup:-1021≤ex-ey-55+bl (q1 mx my)→ex-ey-55+bl (q1 mx my)≤1023→rung (q1 mx my) (ex-ey-55)≤R∧(R:Int)≤rung (q1 mx my) (ex-ey-55)+1:=by
   intro h1 h2;have:=hmid h1 h2;split at this<;>omega
  have hneg:double.read (negW (wd (sx^^sy) R))=(double.read (wd (sx^^sy) R)).opposite:=kb (kz (by omega))
  have hany:R<9218868437227405312→∃q o,double.fma (negW (wd (sx^^sy) R)) y x=some q∧FloatKind.f64.format.order (if sy then negW q else q) 0=some o:=by
   intro hlt;obtain⟨m',i',r1,_,_⟩:=jJ (s:=(sx^^sy)) (r:=R) hlt;rw[r1] at hneg;obtain⟨q,o,q1,q2⟩:=Av ((!(sx^^sy))^^sy) sx (m'*my) mx (i'+ey) ex sy;exact⟨q,o,(sQ hneg ry rx).trans q1,q2⟩
  by_cases hl:R<103582791429521408
  ·exact⟨_,_,l7 _ hn (by omega) (kL _ (by omega) (by omega)) (kL _ (by omega) (by omega)),hlost _ R ox oy hdiv hl⟩
  ·by_cases he1:ex-ey-55< -1022
   ·obtain⟨q,o,q1,q2⟩:=hany (by omega);obtain⟨d,u,hd,hu,hG⟩:=pW (sx^^sy) R _ o (by omega) (by omega) q2;exact⟨d,u,l7 _ hn (by omega) hd hu,hmain _ R q d u ox oy hdiv hl hR2 q1 hG⟩
   ·by_cases he2:940<ex-ey-55
    ·by_cases hinf:R=9218868437227405312
     ·subst hinf;rw[fJ] at hneg
      have hq:double.fma (negW (wd (sx^^sy) 9218868437227405312)) y x=some (wd ((!(sx^^sy))^^sy) 9218868437227405312):=by
       unfold Format.fma;rw[hneg,ry,rx];simp only[Datum.opposite,Datum.product];rw[if_neg (show¬my=0 by omega)]
       cases sx<;>cases sy<;>rfl
      have ho:FloatKind.f64.format.order (if sy then negW (wd ((!(sx^^sy))^^sy) 9218868437227405312) else wd ((!(sx^^sy))^^sy) 9218868437227405312) 0=some (if(sx^^sy) then .gt else .lt):=by
       rw[pF (by omega)]
       cases sx<;>cases sy<;>rfl
      obtain⟨d,u,hd,hu,hG⟩:=jX (sx^^sy) 9218868437227405312 _ _ (by omega) (by omega) ho (fun _=>rfl);exact⟨d,u,l9 _ hn (by omega) hd hu,hmain _ _ _ d u ox oy hdiv hl hR2 hq hG⟩
     ·obtain⟨q,o,q1,q2⟩:=hany (by omega);obtain⟨d,u,hd,hu,hG⟩:=jX (sx^^sy) R _ o (by omega) (by omega) q2 (fun h=>absurd h hinf);exact⟨d,u,l9 _ hn (by omega) hd hu,hmain _ R q d u ox oy hdiv hl hR2 q1 hG⟩
    ·obtain⟨q,q1',q2⟩:=hrest (by omega) (by omega);have hA:bF 141 #[fV (double.nearest (sx^^sy) (q1 mx my) (ex-ey-55)),fV (if sy then negW q else q)] _ _:=fun w=>jn (sx^^sy) (q1 mx my) (ex-ey-55) _ w hn (by omega) (by omega) q2
     rw[hR] at hA;have e1:=cO (sx^^sy) (n:=q1 mx my) (ex-ey-55) (-1);have e2:=cO (sx^^sy) (n:=q1 mx my) (ex-ey-55) 1;exact⟨_,_,⟨lF _ (-1) hn (by omega) (by omega),lF _ 1 hn (by omega) (by omega)⟩,hmain _ R q _ _ ox oy hdiv hl hR2 q1' hA⟩
theorem lX {a b:Nat}:a*a<b*b↔a<b:=Nat.mul_self_lt_mul_self_iff
theorem Fd {a b:Nat}:a*a≤b*b↔a≤b:=Nat.mul_self_le_mul_self_iff
theorem kv (n:Nat):∀(todo root:Nat),root*root≤n→n<(root+2^todo)*(root+2^todo)→Datum.rootFrom n todo root*Datum.rootFrom n todo root≤n∧n<(Datum.rootFrom n todo root+1)*(Datum.rootFrom n todo root+1)
 |0,root,h1,h2=>by
  rw[Nat.pow_zero] at h2;exact⟨h1,h2⟩
 |todo+1,root,h1,h2=>by
  unfold Datum.rootFrom;simp only[Nat.one_shiftLeft];by_cases h:(root+2^todo)*(root+2^todo)≤n
  ·rw[if_pos h];refine kv n todo _ h ?_;rwa [Nat.add_assoc,←Nat.two_mul,Nat.mul_comm 2,←Nat.pow_succ]
  ·rw[if_neg h];exact kv n todo _ h1 (by omega)
def isq (n:Nat):Nat:=Datum.rootFrom n (n.log2 / 2+1) 0
theorem jL (n:Nat):isq n*isq n≤n∧n<(isq n+1)*(isq n+1):=by
 apply kv
 ·omega
 ·rw[Nat.zero_add,←Nat.pow_add];by_cases h0:n=0
  ·subst h0;exact Nat.two_pow_pos _
  ·have h1:=(bt (Nat.pos_of_ne_zero h0)).2.1;rw[kQ h0] at h1;exact Nat.lt_of_lt_of_le h1 (cW (by omega))
theorem vX {n c:Nat} (h1:c*c≤n) (h2:n<(c+1)*(c+1)):isq n=c:=by
 obtain⟨a1,a2⟩:=jL n;have b1:=lX.1 (Nat.lt_of_le_of_lt a1 h2);have b2:=lX.1 (Nat.lt_of_le_of_lt h1 a2);omega
theorem lG (c g:Nat):c*g*(c*g)=c*c*(g*g):=by
 rw[Nat.mul_assoc,Nat.mul_assoc,Nat.mul_left_comm g]
theorem tN (n k:Nat):cM (isq n) (isq n*isq n=n) (k+1) (2*isq (n*2^(k+k))+if isq (n*2^(k+k))*isq (n*2^(k+k))=n*2^(k+k) then 0 else 1):=by
 obtain⟨a1,a2⟩:=jL n;have hp:=Nat.two_pow_pos k;rw[cM,Nat.pow_add,Nat.pow_succ];generalize 2^k=g at*;have e0:isq n*(g*2)=2*(isq n*g):=by rw[←Nat.mul_assoc,Nat.mul_comm]
 have e2:(isq n+1)*(g*2)=2*((isq n+1)*g):=by rw[←Nat.mul_assoc,Nat.mul_comm]
 have hgg:=Nat.mul_pos hp hp;rw[e0,e2];by_cases hx:isq n*isq n=n
 ·left;refine⟨hx,?_⟩
  have hq:isq (n*(g*g))=isq n*g:=by
   apply vX
   ·rw[lG,hx];exact Nat.le_refl _
   ·rw[show n*(g*g)=isq n*g*(isq n*g) by rw[lG,hx]];exact lX.2 (by omega)
  rw[hq,lG,hx,if_pos rfl,Nat.add_zero]
 ·right;refine⟨hx,?_⟩;obtain⟨b1,b2⟩:=jL (n*(g*g))
  have c1:isq n*g*(isq n*g)<n*(g*g):=by
   rw[lG];exact Nat.mul_lt_mul_of_pos_right (by omega) hgg
  have c2:n*(g*g)<(isq n+1)*g*((isq n+1)*g):=by
   rw[lG];exact Nat.mul_lt_mul_of_pos_right a2 hgg
  have d1:=lX.1 (Nat.lt_trans c1 b2);have d2:=lX.1 (Nat.lt_of_le_of_lt b1 c2);by_cases hr:isq (n*(g*g))*isq (n*(g*g))=n*(g*g)
  ·rw[if_pos hr]
   have:isq n*g≠isq (n*(g*g)):=by
    intro h;rw[←h] at hr;omega
   omega
  ·rw[if_neg hr];omega
def rk (k:Nat) (e:Int):Nat:=if(e-k) % 2=0 then k else k+1
def eR (x:ap):ap:=
 gT false (isq (x.2.1*2^rk 130 x.2.2)) ((x.2.2-rk 130 x.2.2) / 2) (decide (isq (x.2.1*2^rk 130 x.2.2)*isq (x.2.1*2^rk 130 x.2.2)=x.2.1*2^rk 130 x.2.2))
theorem tw (k:Nat) (e:Int):(e-rk k e) % 2=0:=by
 unfold rk;split<;>omega
theorem E5 (e:Int):rk 130 e=rk 56 e+74:=by
 unfold rk;split<;>split<;>omega
def r1 (m:Nat) (e:Int):Nat:=2*isq (m*2^rk 56 e)+if isq (m*2^rk 56 e)*isq (m*2^rk 56 e)=m*2^rk 56 e then 0 else 1
theorem us {m:Nat} (e:Int) (h1:4503599627370496≤m) (h2:m<9007199254740992):18014398509481984≤isq (m*2^rk 56 e)∧isq (m*2^rk 56 e)<36028797018963968:=by
 obtain⟨a1,a2⟩:=jL (m*2^rk 56 e);have k1:56≤rk 56 e∧rk 56 e≤57:=by unfold rk;split<;>omega
 have l1:2^52*2^56≤m*2^rk 56 e:=Nat.mul_le_mul (by rw[p52];exact h1) (cW k1.1);have l2:m*2^rk 56 e<2^53*2^57:=Nat.lt_of_lt_of_le (Nat.mul_lt_mul_of_pos_right (by rw[p53];exact h2) (Nat.two_pow_pos _)) (Nat.mul_le_mul_left _ (cW k1.2));have q1:(2:Nat)^52*2^56=18014398509481984*18014398509481984:=by decide
 have q2:(2:Nat)^53*2^57=36028797018963968*36028797018963968:=by decide
 rw[q1] at l1;rw[q2] at l2;have b1:=lX.1 (Nat.lt_of_le_of_lt l1 a2);have b2:=lX.1 (Nat.lt_of_le_of_lt a1 l2);omega
theorem AC {m:Nat} (e:Int) (h1:4503599627370496≤m) (h2:m<9007199254740992):bl (r1 m e)=56:=by
 obtain⟨a1,a2⟩:=us e h1 h2;have p55:(2:Nat)^(56-1)=36028797018963968:=by decide
 have p56:(2:Nat)^56=72057594037927936:=by decide
 refine rU ?_ ?_ (by omega)
 ·rw[p55];unfold r1;omega
 ·rw[p56];unfold r1;split<;>omega
theorem AK {x:Nat} {mx:Nat} {ex:Int} (rx:double.read x= .number false mx ex) (x1:4503599627370496≤mx) (x2:mx<9007199254740992):
  double.sqrt x=some (double.nearest false (r1 mx ex) ((ex-rk 56 ex) / 2-1)):=by
 have l1:=kQ (n:=mx) (by omega);rw[eB x1 x2] at l1;have hfb:double.fractionBits=52:=rfl;unfold Format.sqrt;rw[rx];simp only[Datum.root,hfb];rw[if_neg (by omega),if_neg Bool.false_ne_true,show 2*(52+2)-mx.log2=56 by omega]
 have hk:56+((ex-((56:Nat):Int)) % 2).toNat=rk 56 ex:=by
  unfold rk;split<;>omega
 rw[hk,Nat.shiftLeft_eq];simp only[Option.map_some,Format.write];change some (double.nearest false (2*isq (mx*2^rk 56 ex)+(isq (mx*2^rk 56 ex)*isq (mx*2^rk 56 ex) !=mx*2^rk 56 ex).toNat) _)=_
 have e2:2*isq (mx*2^rk 56 ex)+(isq (mx*2^rk 56 ex)*isq (mx*2^rk 56 ex) !=mx*2^rk 56 ex).toNat=r1 mx ex:=by
  unfold r1;by_cases h:isq (mx*2^rk 56 ex)*isq (mx*2^rk 56 ex)=mx*2^rk 56 ex
  ·rw[h,if_pos rfl,bne_self_eq_false];rfl
  ·rw[if_neg h,(bne_iff_ne).2 h];rfl
 rw[e2]
theorem Cz {m:Nat} (e:Int) (h1:4503599627370496≤m) (h2:m<9007199254740992):
  (r1 m e<nearM (r1 m e)↔m*2^(rk 56 e+2)<nearM (r1 m e)*nearM (r1 m e))∧(r1 m e=nearM (r1 m e)↔m*2^(rk 56 e+2)=nearM (r1 m e)*nearM (r1 m e)):=by
 have hev:=rI (n:=r1 m e) (by rw[AC e h1 h2];omega);obtain⟨a1,a2⟩:=jL (m*2^rk 56 e)
 have e4:m*2^(rk 56 e+2)=4*(m*2^rk 56 e):=by
  rw[Nat.pow_add,←Nat.mul_assoc,Nat.mul_comm]
 rw[e4]
 have s1:(2*isq (m*2^rk 56 e))*(2*isq (m*2^rk 56 e))=4*(isq (m*2^rk 56 e)*isq (m*2^rk 56 e)):=by
  rw[Nat.mul_mul_mul_comm]
 have s2:(2*isq (m*2^rk 56 e)+2)*(2*isq (m*2^rk 56 e)+2)=4*((isq (m*2^rk 56 e)+1)*(isq (m*2^rk 56 e)+1)):=by
  rw[show 2*isq (m*2^rk 56 e)+2=2*(isq (m*2^rk 56 e)+1) by omega,Nat.mul_mul_mul_comm]
 generalize hM:nearM (r1 m e)=M at*;unfold r1;generalize isq (m*2^rk 56 e)=c at*;generalize m*2^rk 56 e=n at*;by_cases hx:c*c=n
 ·rw[if_pos hx,Nat.add_zero];rw[←hx,←s1];exact⟨lX.symm,Nat.mul_self_inj.symm⟩
 ·rw[if_neg hx];rcases(show M≤2*c∨2*c+2≤M by omega) with h|h
  ·have:=Fd.2 h;constructor<;>constructor<;>intro _<;>omega
  ·have:=Fd.2 h;constructor<;>constructor<;>intro _<;>omega
theorem z7 {mx:Nat} {ex:Int} (x1:4503599627370496≤mx) (x2:mx<9007199254740992):
  ∃N c P,eR (false,mx,ex)=(false,N,(ex-rk 56 ex) / 2-1-37)∧4503599627370496≤c∧cM c P 1 (r1 mx ex)∧cM c P 38 N:=by
 have h1:=tN (mx*2^rk 56 ex) 0;have h2:=tN (mx*2^rk 56 ex) 37;rw[Nat.add_zero,Nat.pow_zero,Nat.mul_one] at h1;rw[Nat.mul_assoc,←Nat.pow_add,show rk 56 ex+(37+37)=rk 130 ex by rw[E5]] at h2;have hc:=us ex x1 x2;have hne:=h2.ne (by omega);refine⟨_,_,_,?_,by omega,h1,h2⟩;unfold eR;simp only
 have hne':2*isq (mx*2^rk 130 ex)+(if(decide (isq (mx*2^rk 130 ex)*isq (mx*2^rk 130 ex)=mx*2^rk 130 ex))=true then 0 else 1)≠0:=by
  rw[kG];exact hne
 rw[vf hne',kG]
 congr 2
 have:=tw 56 ex;have:=tw 130 ex;have:=E5 ex;omega
theorem BI {x:Nat} {mx:Nat} {ex:Int} (rx:double.read x= .number false mx ex) (x1:4503599627370496≤mx) (x2:mx<9007199254740992) (x3:-952≤ex) (x4:ex≤848):
  ∃q,double.fma (negW (double.nearest false (r1 mx ex) ((ex-rk 56 ex) / 2-1))) (double.nearest false (r1 mx ex) ((ex-rk 56 ex) / 2-1)) x=some q∧FloatKind.f64.format.order q 0=some (gk false (r1 mx ex)):=by
 have hbl:=AC ex x1 x2;have hev:=tw 56 ex;have k1:56≤rk 56 ex∧rk 56 ex≤57:=by unfold rk;split<;>omega
 have hsign:=Cz ex x1 x2;generalize hk:rk 56 ex=k at*
 have hn:r1 mx ex≠0:=by
  intro h;rw[h] at hbl;have:bl 0=0:=rfl;omega
 have hN0:=(dz hn).1;have hNb:=(dz hn).2.2.2;have hside:=pi ((r1 mx ex:Nat):Int);generalize r1 mx ex=N at*;obtain⟨a1,a2,a3⟩:=gM (s:=false) hn
 have hI:nearI (sg false N)=sg false (nearM N):=by
  unfold nearI;rw[a1,a2]
 obtain⟨b1,b2,b3⟩:=gM (s:=false) hN0;have hfd:=nC (s:=false) ((ex-k) / 2-1) hn;have hnf:=nk (e:=(ex-k) / 2-1) (z:=sg false N) a3 (by omega) (by rw[a2];omega);rw[hI] at hnf;rw[hfd,←hnf];have hrep:Rep (sg false (nearM N)):=by rw[←hI];exact dB _
 obtain⟨t,m,p,h1,h2,h3,h4⟩:=i9 (e:=(ex-k) / 2-1) (z:=sg false (nearM N)) ⟨by omega,by rw[b2];omega⟩ hrep;have ht:t=false:=by rw[h4 b3,b1]
 subst ht;have hlt:=(uY ((ex-k) / 2-1) (sg false (nearM N))).1
 have hM1:dE (ex-(k+2:Nat)) (-sg false (nearM N)*sg false (nearM N)) ((!false)^^false) (m*m) (p+p):=by
  have:=oK h2.opp h2;rwa [show(ex-(k:Int)) / 2-1+((ex-(k:Int)) / 2-1)=ex-((k+2:Nat):Int) by omega] at this
 have hM2:=ou (show dE ex (sg false mx) false mx ex from fun c _ _=>(bG _ _ _).symm) (k+2)
 have htot:-sg false (nearM N)*sg false (nearM N)+sg false mx*((2^(k+2):Nat):Int)=((mx*2^(k+2):Nat):Int)-((nearM N*nearM N:Nat):Int):=by
  have e1:∀n,sg false n=(n:Int):=fun n=>rfl
  rw[e1,e1,Int.neg_mul,←Int.natCast_mul,←Int.natCast_mul];omega
 have hsz:(-sg false (nearM N)*sg false (nearM N)+sg false mx*((2^(k+2):Nat):Int)).natAbs<2^115:=by
  rw[htot]
  have u1:mx*2^(k+2)<2^114:=by
   have:mx*2^(k+2)<2^53*2^(k+2):=Nat.mul_lt_mul_of_pos_right (by rw[p53];exact x2) (Nat.two_pow_pos _);rw[←Nat.pow_add] at this;exact Nat.lt_of_lt_of_le this (cW (by omega))
  have u2:nearM N*nearM N<2^114:=by
   have v1:nearM N<2^57:=Nat.lt_of_lt_of_le (bt (Nat.pos_of_ne_zero hN0)).2.1 (cW (by omega));have:nearM N*nearM N<2^57*2^57:=Nat.mul_lt_mul'' v1 v1;rwa [←Nat.pow_add] at this
  have u3:(2:Nat)^115=2*2^114:=by rw[Nat.pow_succ 2 114,Nat.mul_comm]
  generalize(2:Nat)^114=g at*;generalize mx*2^(k+2)=a at*;generalize nearM N*nearM N=b at*;omega
 have hbt:=bQ hsz;have hF:eW (ex-(k+2:Nat)) (-sg false (nearM N)*sg false (nearM N)+sg false mx*((2^(k+2):Nat):Int)):=⟨by omega,by omega⟩;have hsum:=jc hM1 hM2 hF (by intro _;rfl);have hord:=qR hF (by omega);clear hF hbt hsz;generalize -sg false (nearM N)*sg false (nearM N)+sg false mx*((2^(k+2):Nat):Int)=T at*;refine⟨fd (ex-(k+2:Nat)) T,?_,?_⟩
 ·have hr:=kb hlt;rw[h1] at hr;rw[sQ hr h1 rx];exact hsum
 ·rw[hord,htot];have a1':decide (((N:Nat):Int)<0)=false:=decide_eq_false (by omega);have hI':nearI ((N:Nat):Int)=((nearM N:Nat):Int):=hI;rw[a1',Int.natAbs_natCast,hI'] at hside;rw[←hside]
  congr 1
  have:=zy (s:=false) (x:=((mx*2^(k+2):Nat):Int)-((nearM N*nearM N:Nat):Int)) (y:=(N:Int)-(nearM N:Nat)) (by omega) (by omega);rw[if_neg Bool.false_ne_true,if_neg Bool.false_ne_true] at this;exact this
theorem rD {x:Nat} {p:ap} (hx:x<18446744073709551616) (hxz:x≠9223372036854775808) (px:au x=some p) (hs:p.1=false):
  ∃d u,f9 (eR p) d u∧bF 95 #[fV x] d u:=by
 by_cases hp0:p.2.1=0
 ·have hx0:x=0:=by
   obtain⟨s,n,e⟩:=p;simp only at hp0;rcases fp hx px with⟨_,_,h,_⟩|⟨h,_⟩
   ·omega
   ·omega
  subst hx0;have h1:double.sqrt 0=some 0:=rfl;have h2:double.fma (negW 0) 0 0=some 0:=rfl;refine⟨0,0,lO ?_,ur 0 0 0 0 0 h1 h2 (fun w=>jo 0 0 w rfl)⟩;have hi:isq 0=0:=vX (by omega) (by omega);unfold eR gT;simp only;rw[hp0,Nat.zero_mul,hi];rfl
 ·obtain⟨sx,mx,ex⟩:=p;obtain⟨rx,ox,x1,x2,x3,x4⟩:=eO hx px hp0;simp only at*;subst hs;obtain⟨N,c,P,hN,hc,k1,k2⟩:=z7 (ex:=ex) x1 x2;have hn:=k1.ne hc;have hb:=AC ex x1 x2;have hk:56≤rk 56 ex∧rk 56 ex≤57:=by unfold rk;split<;>omega
  rw[hN];obtain⟨q,q1,q2⟩:=BI rx x1 x2 x3 x4;have hsq:=AK rx x1 x2;have rb:=cJ ((ex-rk 56 ex) / 2-1) hn;have e1:=cO false (n:=r1 mx ex) ((ex-rk 56 ex) / 2-1) (-1);have e2:=cO false (n:=r1 mx ex) ((ex-rk 56 ex) / 2-1) 1;have hE:f9 (false,r1 mx ex,(ex-rk 56 ex) / 2-1) (wd false (endR false (r1 mx ex) ((ex-rk 56 ex) / 2-1) (-1)).toNat) (wd false (endR false (r1 mx ex) ((ex-rk 56 ex) / 2-1) 1).toNat):=⟨lF _ (-1) hn (by omega) (by omega),lF _ 1 hn (by omega) (by omega)⟩;have hA:bF 141 #[fV (double.nearest false (r1 mx ex) ((ex-rk 56 ex) / 2-1)),fV q] (wd false (endR false (r1 mx ex) ((ex-rk 56 ex) / 2-1) (-1)).toNat) (wd false (endR false (r1 mx ex) ((ex-rk 56 ex) / 2-1) 1).toNat):=fun w=>jn false (r1 mx ex) ((ex-rk 56 ex) / 2-1) _ w hn (by omega) (by omega) q2
  have hE2:=k1.ends k2 hc (f:=(ex-rk 56 ex) / 2-1-37) (by omega) hE;exact⟨_,_,hE2,ur x _ q _ _ hsq q1 hA⟩
end
section
open Go.RowKit Go.Extern Ieee
attribute [local go_sem] av
def aR (A:Nat→Addr) (w:World) (v:Value) (k:Nat) (s:ByteArray):Prop:=
 (v= .nilIface∧k=0∧s=⟨#[]⟩)∨(∃j,j<9∧v= aL (A j)∧k=j+1∧s=⟨#[]⟩)∨
  (∃j,j<9∧∃b,w.heap[b]?=some (.cells #[.string s,aL (A j)] 138 (0,0))∧v= .iface 136 (.pointer (some ⟨b,0,none⟩))∧k=j+1)
theorem aR.nil {A:Nat→Addr} {w:World}:aR A w .nilIface 0 ⟨#[]⟩:=Or.inl ⟨rfl,rfl,rfl⟩
theorem aR.one {A:Nat→Addr} {w:World} (k:Nat) (h:k<9):aR A w (aL (A k)) (k+1) ⟨#[]⟩:=Or.inr (Or.inl ⟨k,h,rfl,rfl,rfl⟩)
theorem aR.op {A:Nat→Addr} {w:World} (k:Nat) (h:k<9) (b:Nat) (s:ByteArray) (hb:w.heap[b]?=some (.cells #[.string s,aL (A k)] 138 (0,0))):aR A w (.iface 136 (.pointer (some ⟨b,0,none⟩))) (k+1) s:=Or.inr (Or.inr ⟨k,h,b,hb,rfl,rfl⟩)
theorem aR.below {A:Nat→Addr} {w w':World} {v:Value} {k:Nat} {s:ByteArray} (h:aR A w v k s) (hb:Below w.heap.size w w'):aR A w' v k s:=by
 rcases h with⟨rfl,rfl,rfl⟩|⟨k,h,rfl,rfl,rfl⟩|⟨k,h,b,hr,rfl,rfl⟩
 ·exact .nil
 ·exact .one k h
 ·exact .op k h b s (by rw[hb.block _ (ag hr)];exact hr)
theorem jK (A:Nat→Addr) (v:Value) (k:Nat) (s:ByteArray) (w:World) (hS:aE A w) (h:aR A w v k s):
  aw 49 #[v] w (.tuple #[iV (k:Int),.string s]):=by
 rcases h with⟨rfl,rfl,rfl⟩|⟨k,h,rfl,rfl,rfl⟩|⟨k,h,b,hr,rfl,rfl⟩
 ·
  refine (m7 w).mono ?_;rintro e w' ⟨rfl,rfl⟩;exact⟨rfl,Below.refl _ _⟩
 ·exact ut A w k h hS
 ·exact Fj A w b k s h hS hr
def OpR (A:Nat→Addr) (w:World) (lo hi k:Nat) (s:ByteArray) (ev:Ending) (w':World):Prop:=
 ∃v,ev= .returned (.tuple #[gF lo hi,v])∧aR A w' v k s∧Below w.heap.size w w'
def opS (s:ByteArray) (k:Nat):ByteArray:=if k=0 then⟨#[]⟩ else s
theorem n6 (w:World) (s:ByteArray) (a:Addr):((w.alloc (.cells #[fV 0,fV 0] 67)).alloc (.cells #[.string s,.iface 229 (.pointer (some a))] 138)).drew.heap[w.heap.size+1]?=some (.cells #[.string s,.iface 229 (.pointer (some a))] 138 (0,0)):=by
 have:=af (w.alloc (.cells #[fV 0,fV 0] 67)) (.cells #[.string s,.iface 229 (.pointer (some a))] 138);rw[World.size_alloc] at this;exact this
theorem jv (A:Nat→Addr) (s:ByteArray) (lo hi:Nat) (p q:Int) (w:World) (hS:aE A w) (hlo:FR lo p) (hhi:FR hi q):
  ax 88 #[.string s,fV lo,fV hi] w fun ev w'=>OpR A w (boxP p q).1 (boxP p q).2.1 (boxP p q).2.2 (opS s (boxP p q).2.2) ev w':=by
 have H1:Hid (∀w,ax 112 #[fV lo] w fun e w'=>e= .returned (.bool (plP p))∧w'=w):=by
  intro w;rw[←hlo.plain];exact fG lo w hlo.lt
 have H2:Hid (∀w,ax 112 #[fV hi] w fun e w'=>e= .returned (.bool (plP q))∧w'=w):=by
  intro w;rw[←hhi.plain];exact fG hi w hhi.lt
 have c2:w.cell? ⟨5,0,none⟩=some (aL (A 2)):=hS.cell 2 (by omega);have hl2:=bL c2
 cases hp:plP p
 ·have e:Hid (boxP p q=(0,0,3)):=by show _=_;unfold boxP;rw[if_neg (by rw[hp];simp)]
  rw[hp] at H1;clear hp hlo hhi hS;go_enter Tryz.func88,Tryz.ntmps88;go_wp2_with fail;refine (H1.out _).mono ?_;rintro e w' ⟨rfl,rfl⟩;clear H1 H2;go_wp2_with fail;go_region;go_wp2_with fail;refine bodyPost_ret (v:= .tuple #[gF 0 0,.iface 136 (.pointer (some ⟨w.heap.size+1,0,none⟩))]) (by simp[results,Tryz.results88,go_sem]) rfl ?_;rw[e.out];refine⟨_,rfl,.op 2 (by omega) _ s (n6 w s (A 2)),(aJ.alloc (by simp) _).drew⟩
 ·rw[hp] at H1
  cases hq:plP q
  ·have e:Hid (boxP p q=(0,0,3)):=by show _=_;unfold boxP;rw[if_neg (by rw[hq];simp)]
   rw[hq] at H2;clear hp hq hlo hhi hS;go_enter Tryz.func88,Tryz.ntmps88;go_wp2_with fail;refine (H1.out _).mono ?_;rintro e w' ⟨rfl,rfl⟩;go_wp2_with fail;refine (H2.out _).mono ?_;rintro e w' ⟨rfl,rfl⟩;clear H1 H2;go_wp2_with fail;go_region;go_wp2_with fail;refine bodyPost_ret (v:= .tuple #[gF 0 0,.iface 136 (.pointer (some ⟨w.heap.size+1,0,none⟩))]) (by simp[results,Tryz.results88,go_sem]) rfl ?_;rw[e.out];refine⟨_,rfl,.op 2 (by omega) _ s (n6 w s (A 2)),(aJ.alloc (by simp) _).drew⟩
  ·have e:Hid (boxP p q=(lo,hi,0)):=by show _=_;unfold boxP;rw[if_pos ⟨hp,hq⟩,←hlo.word hp,←hhi.word hq]
   rw[hq] at H2;clear hp hq hlo hhi hS;go_enter Tryz.func88,Tryz.ntmps88;go_wp2_with fail;refine (H1.out _).mono ?_;rintro e w' ⟨rfl,rfl⟩;go_wp2_with fail;refine (H2.out _).mono ?_;rintro e w' ⟨rfl,rfl⟩;clear H1 H2;go_wp2_with fail;refine bodyPost_ret (v:= .tuple #[gF lo hi,.nilIface]) (by simp[results,Tryz.results88,go_sem]) rfl ?_;rw[e.out];exact⟨_,rfl,.nil,aK.alloc ae _⟩
end
end Go.Proofs.YtonhpkigoplmaaaGreatDoor
