import Derived.Test.YtonhpkigoplmaaaGreatDoorZ07
set_option maxRecDepth 100000
set_option maxHeartbeats 40000000
namespace Go.Proofs.YtonhpkigoplmaaaGreatDoor
section
open Go.RowKit Go.Extern Ieee
theorem vC (y:Int) (h1:-9223372036854775808≤y) (h2:y<9223372036854775808):az (aC y) (aC y)=(wholeLo y,wholeHi y,0):=by
 unfold az aC wholeLo wholeHi;simp only;by_cases h0:y=0
 ·subst h0;rfl
 ·have hn:y.natAbs≠0:=by omega
  have hb:=bQ (n:=y.natAbs) (k:=64) (by have:(2:Nat)^64=18446744073709551616:=(by decide);omega);have hbp:=eK (Nat.pos_of_ne_zero hn);have hm:=b9 (Nat.pos_of_ne_zero hn);rw[mi _ _ _ hn,mi _ _ _ hn,if_neg h0,if_neg h0]
  have key:∀c:Bool,jp (decide (y<0)) (rung y.natAbs 0+if c=true then 1 else 0)=(wd (decide (y<0)) (rung y.natAbs 0+if c=true then 1 else 0).toNat,true):=by
   intro c;unfold jp
   have:553942754166571008≤(rung y.natAbs 0+if c=true then 1 else 0)∧(rung y.natAbs 0+if c=true then 1 else 0)≤8660422083433463808:=by
    unfold rung;split<;>omega
   rw[if_pos this]
   rfl
  rw[key,key]
  rfl
theorem qk {b:Nat} {s:Bool} {n:Nat} {e way:Int} (hb:b<18446744073709551616) (h:au b=some (s,n,e)):roundN s n e way=(posW b,true):=by
 unfold au at h;split at h
 ·rename_i h0
  simp only[Option.some.injEq,Prod.mk.injEq] at h;obtain⟨rfl,rfl,rfl⟩:=h;have:posW b=0:=by unfold posW;rw[if_pos (by omega)]
  rw[this];rfl
 ·rename_i h0
  split at h
  ·cases h
  ·rename_i h1
   simp only[Option.some.injEq,Prod.mk.injEq] at h;obtain⟨rfl,rfl,rfl⟩:=h;have hp:posW b=b:=by unfold posW;rw[if_neg (by omega)]
   have hb53:=eB (q:=b % 4503599627370496+4503599627370496) (by omega) (by omega);unfold roundN fX;rw[if_neg (by omega),hb53,if_pos ae,hp,Nat.sub_self,Nat.pow_zero,Nat.mul_one];simp only;unfold bK;rw[if_neg (by omega)]
   congr 1
   by_cases hs:b / 9223372036854775808=1
   ·rw[decide_eq_true hs,if_pos rfl];omega
   ·rw[decide_eq_false hs,if_neg Bool.false_ne_true];omega
theorem z4 (b:Nat):iK b b=false:=by
 unfold iK;rw[xJ,decide_eq_false_iff_not];exact Int.lt_irrefl _
theorem Dr (b:Nat) (hb:b<18446744073709551616):(if(au b).isSome=true then az ((au b).getD (false,0,0)) ((au b).getD (false,0,0)) else(0,0,1))=makeN b b:=by
 unfold makeN;rw[z4]
 cases h:au b
 ·rfl
 ·rename_i t
  obtain⟨s,n,e⟩:=t;simp only[Option.isSome_some,if_true,Option.getD_some];unfold az;simp only;rw[qk hb h,qk hb h]
  rfl
theorem sY (A:Nat→Addr) (k x:Int) (w:World) (h1:-9223372036854775808≤x) (h2:x<9223372036854775808) (hS:aE A w):
  aw 32 #[iV k,iV x] w (.tuple #[.agg #[uV ((bi k x).1:Int),uV ((bi k x).2.1:Int)],iV ((bi k x).2.2:Int)]):=by
 have hw:-9223372036854775808≤wrap32 x∧wrap32 x<9223372036854775808:=by unfold wrap32;omega
 by_cases a:k=0∨k=2
 ·rw[show bi k x=az (aC x) (aC x) by unfold bi;rw[if_pos a],vC x h1 h2];exact oP k x x w h1 h2 (by omega)
 ·by_cases b:k=1∨k=4
  ·rw[show bi k x=az (aC (wrap32 x)) (aC (wrap32 x)) by unfold bi;rw[if_neg a,if_pos b],vC _ hw.1 hw.2];exact oP k x _ w hw.1 hw.2 (by omega)
  ·by_cases c:k=3∨k=5
   ·have hx:IntKind.u64.wrap x=(((x % 18446744073709551616).toNat:Nat):Int):=by rw[IntKind.wrap_u64];omega
    have hb:(x % 18446744073709551616).toNat<18446744073709551616:=by omega
    rw[show bi k x=makeN (x % 18446744073709551616).toNat (x % 18446744073709551616).toNat by unfold bi;rw[if_neg a,if_neg b,if_pos c];exact Dr _ hb];exact wE A k x _ w hx hb hS c
   ·rw[show bi k x=(0,0,0) by unfold bi;rw[if_neg a,if_neg b,if_neg c]];exact sA k x w (by omega)
end
section
open Go.RowKit
theorem qe (A:Nat→Addr) (a b:Int) (s:ByteArray) (xl xh yl yh:Int) (po:Option Addr) (pl pc:Nat) (w:World) (h1:-9223372036854775808≤b) (h2:b<9223372036854775808) (hS:aE A w):
  aw 18 #[.agg #[iV 4,iV a,iV b,.string s,uV xl,uV xh,uV yl,uV yh,.slice po pl pc]] w (.bool true):=by
 have H1:=hid h1;have H2:=hid h2;have hwb:wrap64 b=b:=by unfold wrap64;omega
 clear h1 h2;go_enter Tryz.func18,Tryz.ntmps18;go_wp2_with fail;have hW:Below w.heap.size w (w.alloc (.cells #[iV 4,iV a,iV b,.string s,uV xl,uV xh,uV yl,uV yh,.slice po pl pc] 31)):=aK.alloc ae _;have HS1:=hid (hS.below hW ae);refine(sY A a b _ H1.out H2.out HS1.out).mono ?_;rintro e w2 ⟨rfl,hb2⟩;have B0:=aa (af w (.cells #[iV 4,iV a,iV b,.string s,uV xl,uV xh,uV yl,uV yh,.slice po pl pc] 31)) hb2;have HbB:=hid (hW.trans (hb2.mono hW.size));clear hW hS HS1 hb2;generalize hmk:bi a b=r;have HMK:=hid hmk;clear hmk;obtain⟨rl,rh,rk⟩:=r;dsimp only;obtain⟨-,k1,k2,-,-,-,-,-,-⟩:=qH B0;have hz:=(Array.getElem?_eq_some_iff.1 B0).1;go_wp2_with fail;refine(xd a b _ H1.out H2.out).mono ?_;rintro e w3 ⟨rfl,hb3⟩;rw[HMK.out];dsimp only;have B3:=aa (af w2 (.cells #[uV rl,uV rh] 33)) hb3;have HbC:=hid ((HbB.out.alloc HbB.out.size _).trans (hb3.mono (by have:=HbB.out.size;simp;omega)));obtain⟨j0,j1,-,-⟩:=aj B3;have hz3:=(Array.getElem?_eq_some_iff.1 B3).1;clear HbB hb3 B0 k1 k2 hz B3 H1 H2;go_wp2_with fail;refine(iZ _ _ _).mono ?_;rintro e w4 ⟨rfl,hb4⟩;have hbD:=(HbC.out.alloc HbC.out.size _).trans (hb4.mono (by have:=HbC.out.size;simp;omega));clear HbC hb4 j0 j1 hz3;go_wp2
 go_ret
 exact⟨rfl,hbD⟩
theorem Hc (A:Nat→Addr) (z:bW) (ao:Option Addr) (n c:Nat) (w:World) (hn:n≤1466015503701) (hS:aE A w)
  (hz:n=0∨∃g off,ao=some ⟨g,off,none⟩∧g<w.heap.size∧z.at w g off n) (hx:∀i,i<n→-9223372036854775808≤z.b i∧z.b i<9223372036854775808):
  aw 6 #[.slice ao n c] w (.bool true):=by
 have HU:=mY A z ao n c 4 4 w hn hS hz (fun i hi h1 h2 W hW=>by
  have hk:z.k i=4:=by omega
  unfold bW.val;rw[hk];exact qe A _ _ _ _ _ _ _ _ _ _ W (hx i hi).1 (hx i hi).2 hW)
 clear hz hx hS hn;have HU:=hid HU;go_enter Tryz.func6,Tryz.ntmps6;go_wp2_with fail;refine Calls.mono HU.out ?_;rintro e w1 ⟨rfl,hb1⟩;clear HU;go_wp2
 go_ret
 exact⟨rfl,hb1⟩
end
section
open Go.RowKit Go.Extern Ieee
def Pw (h:Int):Prop:=∃k:Nat,h=((2^k:Nat):Int)
theorem Pw.pos {h:Int} (p:Pw h):0<h:=by
 obtain⟨k,rfl⟩:=p
 exact_mod_cast Nat.two_pow_pos k
theorem Pw.dvd {g h:Int} (pg:Pw g) (ph:Pw h) (hle:g≤h):g∣h:=by
 obtain⟨k,rfl⟩:=pg;obtain⟨l,rfl⟩:=ph;have:(2:Nat)^k≤2^l:=by exact_mod_cast hle
 have hkl:=(Nat.pow_le_pow_iff_right (by decide)).1 this;exact Int.natCast_dvd_natCast.2 (Nat.pow_dvd_pow 2 hkl)
theorem Pw.two {h:Int} (p:Pw h):Pw (2*h):=by
 obtain⟨k,rfl⟩:=p;exact⟨k+1,by rw[Nat.pow_succ,Int.natCast_mul,Int.mul_comm];rfl⟩
theorem pA {n k:Nat} (h:2^k≤n):k<bl n:=by
 have h0:=Nat.lt_of_lt_of_le (Nat.two_pow_pos k) h;have:=(bt h0).2.1;exact(Nat.pow_lt_pow_iff_right (by decide)).1 (Nat.lt_of_le_of_lt h this)
theorem CP {m:Nat} (h:m≤9007199254740992):aP m=false:=by
 by_cases h2:m=9007199254740992
 ·subst h2;unfold aP;rw[xz];rfl
 ·exact b8 (bQ (by rw[p53];omega))
theorem cU {x h:Int} (p:Pw h) (hd:h∣x) (hb:x.natAbs≤9007199254740992*h):Rep x:=by
 obtain⟨k,rfl⟩:=p;obtain⟨m,rfl⟩:=hd;have hp:=Nat.two_pow_pos k
 have hm:m.natAbs≤9007199254740992:=by
  rw[Int.natAbs_mul,Int.natAbs_natCast] at hb
  have:2^k*m.natAbs≤2^k*9007199254740992:=by
   have h2:((2^k*m.natAbs:Nat):Int)≤((2^k*9007199254740992:Nat):Int):=by
    rw[Int.natCast_mul (2^k) 9007199254740992,Int.mul_comm];exact hb
   exact_mod_cast h2
  exact Nat.le_of_mul_le_mul_left this hp
 show aP _=false
 rw[Int.natAbs_mul,Int.natAbs_natCast,Nat.mul_comm];by_cases h0:m.natAbs=0
 ·rw[h0,Nat.zero_mul];rfl
 ·exact jx h0 _ (CP hm)
theorem iQ:Rep 0:=rfl
theorem fE {z:Int} (h:Rep z):Rep (-z):=by
 show aP _=false
 rw[Int.natAbs_neg];exact h
theorem wF {n:Nat} (h:aP n=false):n % 2^(bl n-53)=0:=by
 unfold aP at h;rw[decide_eq_false_iff_not] at h;by_cases hb:53<bl n
 ·apply Decidable.byContradiction;intro hc;exact h ⟨hb,hc⟩
 ·rw[show bl n-53=0 by omega,Nat.pow_zero,Nat.mod_one]
theorem fM {z h:Int} (p:Pw h) (hr:Rep z) (hb:4503599627370496*h≤z.natAbs):h∣z:=by
 obtain⟨k,rfl⟩:=p;have hm:=wF hr
 have hb':2^(52+k)≤z.natAbs:=by
  rw[Nat.pow_add,p52];generalize 2^k=g at*;omega
 have hk:=pA hb';have:2^k∣z.natAbs:=Nat.dvd_trans (Nat.pow_dvd_pow 2 (by omega)) (Nat.dvd_of_mod_eq_zero hm);exact Int.ofNat_dvd_left.2 this
theorem fF {h x y:Int} (hp:0<h) (hx:h∣x) (hy:h∣y) (hlt:x<y):x+h≤y:=by
 obtain⟨a,rfl⟩:=hx;obtain⟨b,rfl⟩:=hy;have:a<b:=Int.lt_of_mul_lt_mul_left hlt (Int.le_of_lt hp);have:h*(a+1)≤h*b:=Int.mul_le_mul_of_nonneg_left (by omega) (Int.le_of_lt hp);rw[Int.mul_add,Int.mul_one] at this;exact this
theorem r9 (n w:Nat) (hw:aP w=false):((n:Int)-nearM n).natAbs≤((n:Int)-w).natAbs:=by
 by_cases hb:bl n≤53
 ·unfold nearM;rw[if_pos hb];omega
 ·have hn0:0<n:=by
   rcases Nat.eq_zero_or_pos n with h|h
   ·subst h;exact absurd (show bl 0≤53 by decide) hb
   ·exact h
  have hpw:Pw ((2^(bl n-53):Nat):Int):=⟨_,rfl⟩;have hmf:mf n=n / 2^(bl n-53):=by unfold mf;rw[if_neg hb]
  obtain⟨m1,m2⟩:=b9 hn0;have hd:=Nat.div_add_mod n (2^(bl n-53));have hl:=Nat.mod_lt n (Nat.two_pow_pos (bl n-53));have hN:nearM n=(mf n+if nup n then 1 else 0)*2^(bl n-53):=by unfold nearM;rw[if_neg hb]
  have hu:nup n=(decide (2^(bl n-53)<2*(n % 2^(bl n-53)))||(2^(bl n-53)==2*(n % 2^(bl n-53)) &&(n / 2^(bl n-53)) % 2==1)):=by
   unfold nup;rw[decide_eq_true (show 53<bl n by omega),Bool.true_and]
  have hwr:Rep (w:Int):=by show aP _=false;rw[Int.natAbs_natCast];exact hw
  rw[←hmf] at hd hu;rw[hN];have hrw:=fM (z:=(w:Int)) hpw hwr;rw[Int.natAbs_natCast] at hrw;generalize hg:2^(bl n-53)=g at*;have hgp:0<g:=by rw[←hg];exact Nat.two_pow_pos _
  generalize n % g=r at*;generalize mf n=q at*
  have hw2:(w:Int)≤g*q∨(g:Int)*q+g≤w:=by
   by_cases hs:4503599627370496*(g:Int)≤(w:Int)
   ·have hdv:=hrw hs;by_cases hlt:(g:Int)*q<w
    ·right;exact fF (by omega) ⟨_,rfl⟩ hdv hlt
    ·left;omega
   ·left;have:(g:Int)*4503599627370496≤g*q:=Int.mul_le_mul_of_nonneg_left (by omega) (by omega);omega
  have hd':(g:Int)*q+r=n:=by exact_mod_cast hd
  have hNe:(((q+if nup n=true then 1 else 0)*g:Nat):Int)=(g:Int)*q+(if nup n=true then(g:Int) else 0):=by
   cases nup n
   ·simp only[Bool.false_eq_true,if_false,Nat.add_zero,Int.natCast_mul,Int.add_zero];exact Int.mul_comm _ _
   ·simp only[if_true,Int.natCast_mul,Int.natCast_add,Int.add_mul];rw[Int.mul_comm (q:Int)];simp
  rw[hNe];generalize(g:Int)*q=Q at*
  have hcase:(nup n=true→g≤2*r)∧(nup n=false→2*r≤g):=by
   rw[hu];constructor
   ·intro h;rw[Bool.or_eq_true] at h;rcases h with h|h
    ·rw[decide_eq_true_eq] at h;omega
    ·rw[Bool.and_eq_true,beq_iff_eq] at h;omega
   ·intro h;rw[Bool.or_eq_false_iff] at h;have:=h.1;rw[decide_eq_false_iff_not] at this;omega
  cases hnu:nup n
  ·have:=hcase.2 hnu;simp only[Bool.false_eq_true,if_false];omega
  ·have:=hcase.1 hnu;simp only[if_true];omega
theorem j4 (z:Int):(nearI z).natAbs=nearM z.natAbs:=by unfold nearI;exact(oZ rfl).symm
theorem dW (z:Int):(z<0→nearI z=-(nearM z.natAbs:Int))∧(¬z<0→nearI z=(nearM z.natAbs:Int)):=by
 unfold nearI sg;constructor
 ·intro h;rw[decide_eq_true h,if_pos rfl]
 ·intro h;rw[decide_eq_false h,if_neg Bool.false_ne_true]
theorem AO:nearI 0=0:=rfl
theorem dB (z:Int):Rep (nearI z):=by
 show aP _=false
 rw[j4];by_cases h:z.natAbs=0
 ·rw[h];rfl
 ·exact(dz h).2.1
theorem dP (z w:Int) (hw:Rep w):(z-nearI z).natAbs≤(z-w).natAbs:=by
 have h1:=r9 z.natAbs w.natAbs hw;have h0:=r9 z.natAbs 0 rfl;by_cases hz:z<0
 ·have:=(dW z).1 hz;omega
 ·have:=(dW z).2 hz;omega
theorem jG {z:Int} (h:Rep z):nearI z=z:=by
 have:=dP z z h;omega
theorem zo {z w:Int} (hw:Rep w) (h:z≤w):nearI z≤w:=by
 have:=dP z w hw;omega
theorem iW {z w:Int} (hw:Rep w) (h:w≤z):w≤nearI z:=by
 have:=dP z w hw;omega
theorem kj {z g:Int} (p:Pw g) (h:z.natAbs≤9007199254740992*g):2*((z-nearI z).natAbs:Int)≤g:=by
 have gp:=p.pos;have hd:=Int.mul_ediv_add_emod z g;have m1:=Int.emod_nonneg z (Int.ne_of_gt gp);have m2:=Int.emod_lt_of_pos z gp;have d1:g∣g*(z / g):=⟨_,rfl⟩;have d2:=Int.dvd_add d1 (Int.dvd_refl g);have d3:g∣9007199254740992*g:=⟨9007199254740992,Int.mul_comm _ _⟩;have d4:=Int.dvd_neg.2 d3;generalize g*(z / g)=f at*;generalize z % g=r at*
 have b1:-(9007199254740992*g)≤f:=by
  rcases(show -(9007199254740992*g)≤f∨f< -(9007199254740992*g) by omega) with h'|h'
  ·exact h'
  ·have:=fF gp d1 d4 h';omega
 by_cases hr:2*r≤g
 ·have:=dP z f (cU p d1 (by omega));omega
 ·have:f+g≤9007199254740992*g:=by
   rcases(show f+g≤9007199254740992*g∨9007199254740992*g<f+g by omega) with h'|h'
   ·exact h'
   ·have:=fF gp d3 d2 h';omega
  have:=dP z (f+g) (cU p d2 (by omega));omega
theorem qJ {z g:Int} (p:Pw g) (h:g∣z):g∣nearI z:=by
 by_cases hs:(z.natAbs:Int)≤9007199254740992*g
 ·rw[jG (cU p h hs)];exact h
 ·have gp:=p.pos;have d3:g∣9007199254740992*g:=⟨9007199254740992,Int.mul_comm _ _⟩;have r3:=cU p d3 (by omega);by_cases hz:z<0
  ·have:=zo (z:=z) (fE r3) (by omega);exact fM p (dB z) (by omega)
  ·have:=iW (z:=z) r3 (by omega);exact fM p (dB z) (by omega)
theorem zG {z:Int} (hr:Rep z) (h:9007199254740992≤z.natAbs):∃u,Pw u∧2*u∣z∧9007199254740992*u≤z.natAbs∧(z.natAbs:Int)<18014398509481984*u:=by
 have h0:0<z.natAbs:=by omega
 obtain⟨b1,b2,b3⟩:=bt h0;have hk:=pA (by rw[p53];exact h);have e2:((2^(bl z.natAbs-54)*2:Nat):Int)=2*((2^(bl z.natAbs-54):Nat):Int):=by rw[Int.natCast_mul,Int.mul_comm];rfl
 refine⟨((2^(bl z.natAbs-54):Nat):Int),⟨_,rfl⟩,?_,?_,?_⟩
 ·rw[←e2,←Nat.pow_succ,show(bl z.natAbs-54).succ=bl z.natAbs-53 by omega];exact Int.ofNat_dvd_left.2 (Nat.dvd_of_mod_eq_zero (wF hr))
 ·have:9007199254740992*2^(bl z.natAbs-54)≤z.natAbs:=by
   rw[←p53,←Nat.pow_add,show 53+(bl z.natAbs-54)=bl z.natAbs-1 by omega];exact b1
  generalize 2^(bl z.natAbs-54)=g at*;omega
 ·have:z.natAbs<18014398509481984*2^(bl z.natAbs-54):=by
   have p54:(18014398509481984:Nat)=2^54:=by decide
   rw[p54,←Nat.pow_add,show 54+(bl z.natAbs-54)=bl z.natAbs by omega];exact b2
  generalize 2^(bl z.natAbs-54)=g at*;omega
def ff (a b:Int):Prop:=Rep (nearI (a+b)-nearI (nearI (a+b)-a))∧Rep (a-(nearI (a+b)-nearI (nearI (a+b)-a)))∧Rep (b-nearI (nearI (a+b)-a))∧Rep (a+b-nearI (a+b))
theorem qO {a b N V:Int} (hN:nearI (a+b)=N) (hV:nearI (N-a)=V) (h1:Rep (N-V)) (h2:Rep (a-(N-V))) (h3:Rep (b-V)) (h4:Rep (a+b-N)):ff a b:=by
 unfold ff;rw[hN,hV];exact⟨h1,h2,h3,h4⟩
theorem vG (z:Int):nearI (-z)=-nearI z:=by
 by_cases h0:z=0
 ·subst h0;rfl
 ·by_cases hz:z<0
  ·have h1:=(dW z).1 hz;have h2:=(dW (-z)).2 (by omega);rw[Int.natAbs_neg] at h2;omega
  ·have h1:=(dW z).2 hz;have h2:=(dW (-z)).1 (by omega);rw[Int.natAbs_neg] at h2;omega
theorem ff.neg {a b:Int} (h:ff (-a) (-b)):ff a b:=by
 unfold ff at*;rw[show -a+-b=-(a+b) by omega,vG] at h;rw[show -nearI (a+b) - -a=-(nearI (a+b)-a) by omega,vG] at h;generalize nearI (a+b)=N at*;generalize nearI (N-a)=V at*;obtain⟨h1,h2,h3,h4⟩:=h;refine⟨?_,?_,?_,?_⟩
 ·have:=fE h1;rwa [show -(-N - -V)=N-V by omega] at this
 ·have:=fE h2;rwa [show -(-a-(-N - -V))=a-(N-V) by omega] at this
 ·have:=fE h3;rwa [show -(-b - -V)=b-V by omega] at this
 ·have:=fE h4;rwa [show -(-(a+b) - -N)=a+b-N by omega] at this
theorem lR {a b:Int} (ra:Rep a) (rb:Rep b) (rz:Rep (a+b)):ff a b:=by
 have hN:=jG rz;have hV:nearI (a+b-a)=b:=by rw[show a+b-a=b by omega];exact jG rb
 refine qO hN hV ?_ ?_ ?_ ?_
 ·rwa [show a+b-b=a by omega]
 ·rw[show a-(a+b-b)=0 by omega];exact iQ
 ·rw[Int.sub_self];exact iQ
 ·rw[Int.sub_self];exact iQ
theorem rF {a b:Int} (ra:Rep a) (rV:Rep (nearI (a+b)-a)) (rz:Rep (a+b-nearI (a+b))):ff a b:=by
 refine qO rfl (jG rV) ?_ ?_ ?_ rz
 ·rwa [show nearI (a+b)-(nearI (a+b)-a)=a by omega]
 ·rw[show a-(nearI (a+b)-(nearI (a+b)-a))=0 by omega];exact iQ
 ·rwa [show b-(nearI (a+b)-a)=a+b-nearI (a+b) by omega]
theorem zB {u z:Int} (h:2*u∣z):u∣z:=Int.dvd_trans ⟨2,by omega⟩ h
theorem zn {u v z:Int} (pu:Pw u) (pv:Pw v) (hle:u≤v) (h:2*v∣z):2*u∣z:=
 Int.dvd_trans (pu.two.dvd pv.two (by omega)) h
theorem zz {a b u v:Int} (ra:Rep a) (rb:Rep b) (pu:Pw u) (pv:Pw v) (ua:2*u∣a) (vb:2*v∣b) (a1:9007199254740992*u≤a) (a2:a<18014398509481984*u) (b1:9007199254740992*v≤b.natAbs) (b2:(b.natAbs:Int)<18014398509481984*v) (hab:(b.natAbs:Int)≤a):ff a b:=by
 have u0:=pu.pos;have v0:=pv.pos
 have hvu:v≤u:=by
  rcases(show v≤u∨u<v by omega) with h|h
  ·exact h
  ·have:=fF u0 (Int.dvd_refl u) (pu.dvd pv (by omega)) h;omega
 have va:=zn pv pu hvu ua;have vz:=Int.dvd_add va vb;have vN:=qJ pv.two vz
 have rz:Rep (a+b-nearI (a+b)):=by
  have h1:=dP (a+b) a ra;exact cU pv.two (Int.dvd_sub vz vN) (by omega)
 have a3:a+2*u≤18014398509481984*u:=fF pu.two.pos ua ⟨9007199254740992,by omega⟩ a2;by_cases hb:0≤b
 ·have hh:=kj (z:=a+b) pu.two.two (by omega);have hge:=iW (z:=a+b) ra (by omega);have uN:=fM (z:=nearI (a+b)) pu.two (dB _) (by omega);exact rF ra (cU pu.two (Int.dvd_sub uN ua) (by omega)) rz
 ·by_cases hs:a≤2*(-b)
  ·exact lR ra rb (cU pv.two vz (by omega))
  ·have hh:=kj (z:=a+b) pu.two (by omega);have r52:Rep (4503599627370496*u):=cU pu ⟨4503599627370496,Int.mul_comm _ _⟩ (by omega);have hge:=iW (z:=a+b) r52 (by omega);have uN:=fM (z:=nearI (a+b)) pu (dB _) (by omega);exact rF ra (cU pu (Int.dvd_sub uN (zB ua)) (by omega)) rz
theorem tU {a b u v:Int} (ra:Rep a) (rb:Rep b) (pu:Pw u) (pv:Pw v) (ub:2*u∣b) (va:2*v∣a) (b1:9007199254740992*u≤b) (b2:b<18014398509481984*u) (a1:9007199254740992*v≤a.natAbs) (a2:(a.natAbs:Int)<18014398509481984*v) (hab:(a.natAbs:Int)<b):ff a b:=by
 have u0:=pu.pos;have v0:=pv.pos
 have hvu:v≤u:=by
  rcases(show v≤u∨u<v by omega) with h|h
  ·exact h
  ·have:=fF u0 (Int.dvd_refl u) (pu.dvd pv (by omega)) h;omega
 have vb:=zn pv pu hvu ub;have vz:=Int.dvd_add va vb;have b3:b+2*u≤18014398509481984*u:=fF pu.two.pos ub ⟨9007199254740992,by omega⟩ b2;by_cases hs:a<0∧b≤2*(-a)
 ·exact lR ra rb (cU pv.two vz (by omega))
 ·have hz2:b≤2*(a+b):=by omega
  have hh:=kj (z:=a+b) pu.two.two (by omega);have vN:=qJ pv.two vz;have hzb:=dP (a+b) b rb;have rz:=cU pv.two (Int.dvd_sub vz vN) (by omega);have rN:=dB (a+b);have r52:Rep (4503599627370496*u):=cU pu ⟨4503599627370496,Int.mul_comm _ _⟩ (by omega);have r53:Rep (9007199254740992*u):=cU pu ⟨9007199254740992,Int.mul_comm _ _⟩ (by omega);have r54:Rep (18014398509481984*u):=cU pu.two ⟨9007199254740992,by omega⟩ (by omega);have r53m:Rep (9007199254740990*u):=cU pu ⟨9007199254740990,Int.mul_comm _ _⟩ (by omega);have hge:=iW (z:=a+b) r52 (by omega);have uN:=fM pu rN (by omega)
  have hlt54:nearI (a+b)<18014398509481984*u→a+b<18014398509481984*u:=by
   intro h;rcases(show a+b<18014398509481984*u∨18014398509481984*u≤a+b by omega) with h'|h'
   ·exact h'
   ·have:=iW (z:=a+b) r54 h';omega
  have hhs:a+b<18014398509481984*u→2*((a+b-nearI (a+b)).natAbs:Int)≤2*u:=by
   intro h;exact kj pu.two (by omega)
  generalize hN:nearI (a+b)=N at*;have hV1:=kj (z:=N-a) pu.two (by omega);have hV2:=iW (z:=N-a) r53m (by omega);have rV:=dB (N-a);have uV:=fM pu rV (by omega);have vt:=Int.dvd_sub vN va;have vV:=qJ pv.two vt;have hVb:=dP (N-a) N rN;have hV3:=fun(h:9007199254740992*u≤N-a)=>iW r53 h
  generalize hV:nearI (N-a)=V at*;refine qO hN hV ?_ ?_ ?_ rz
  ·by_cases hbig:18014398509481984*u≤N
   ·have u2N:=fM pu.two rN (by omega)
    have ht:9007199254740992*u≤N-a:=by
     rcases(show a≤9007199254740992*u∨9007199254740992*u<a by omega) with h|h
     ·omega
     ·have u2a:=fM pu.two ra (by omega);have:=fF pu.two.pos u2a ub (by omega);omega
    have:=hV3 ht;have u2V:=fM pu.two rV (by omega);exact cU pu.two (Int.dvd_sub u2N u2V) (by omega)
   ·have hz54:=hlt54 (by omega);have:=hhs hz54;have dNV:=Int.dvd_sub uN uV;have e1:u∣9007199254740993*u:=⟨9007199254740993,Int.mul_comm _ _⟩;have g1:=fF u0 dNV e1 (by omega);have g2:=fF u0 (Int.dvd_neg.2 e1) dNV (by omega);exact cU pu dNV (by omega)
  ·rw[show a-(N-V)=V-(N-a) by omega];exact cU pv.two (Int.dvd_sub vV vt) (by omega)
  ·exact cU pu (Int.dvd_sub (zB ub) uV) (by omega)
theorem Fr {a b:Int} (ra:Rep a) (rb:Rep b) (ha:a=0∨9007199254740992≤a.natAbs) (hb:b=0∨9007199254740992≤b.natAbs):ff a b:=by
 rcases ha with rfl|ha
 ·exact lR ra rb (by rw[Int.zero_add];exact rb)
 rcases hb with rfl|hb
 ·exact lR ra rb (by rw[Int.add_zero];exact ra)
 obtain⟨u,pu,ua,u1,u2⟩:=zG ra ha;obtain⟨v,pv,vb,v1,v2⟩:=zG rb hb;by_cases h:b.natAbs≤a.natAbs
 ·by_cases h0:0<a
  ·exact zz ra rb pu pv ua vb (by omega) (by omega) v1 v2 (by omega)
  ·apply ff.neg;refine zz (fE ra) (fE rb) pu pv (Int.dvd_neg.2 ua) (Int.dvd_neg.2 vb) (by omega) (by omega) ?_ ?_ ?_<;>rw[Int.natAbs_neg]<;>omega
 ·by_cases h0:0<b
  ·exact tU ra rb pv pu vb ua (by omega) (by omega) u1 u2 (by omega)
  ·apply ff.neg;refine tU (fE ra) (fE rb) pv pu (Int.dvd_neg.2 vb) (Int.dvd_neg.2 ua) (by omega) (by omega) ?_ ?_ ?_<;>rw[Int.natAbs_neg]<;>omega
def aX (r:Int):Int:=if r<553942754166571008 then 553942754166571007 else if 8660422083433463808<r then 8660422083433463809 else r
def sgI (s:Bool) (r:Int):Int:=if s then -r else r
def endR (s:Bool) (n:Nat) (e way:Int):Int:=rung n e+if offS s way && aP n then 1 else 0
def ar (x:ap) (way:Int):Int:=if x.2.1=0 then 0 else sgI x.1 (aX (endR x.1 x.2.1 x.2.2 way))
def aW (d:Nat):Int:=if d % 9223372036854775808=0 then 0 else sgI (decide (9223372036854775808≤d)) (aX ((d % 9223372036854775808:Nat):Int))
def plP (p:Int):Bool:=decide (p=0∨553942754166571008≤p.natAbs∧p.natAbs≤8660422083433463808)
def wdP (p:Int):Nat:=wd (decide (p<0)) p.natAbs
def boxP (p q:Int):Nat×Nat×Nat:=if plP p=true∧plP q=true then(wdP p,wdP q,0) else(0,0,3)
theorem cP (r:Int):553942754166571007≤aX r∧aX r≤8660422083433463809:=by
 unfold aX;split
 ·omega
 ·split<;>omega
theorem fK {r t:Int} (h:r≤t):aX r≤aX t:=by
 unfold aX;repeat' split
 all_goals omega
theorem pT (x:ap) (way:Int):roundN x.1 x.2.1 x.2.2 way=if plP (ar x way)=true then(wdP (ar x way),true) else(0,false):=by
 obtain⟨s,n,e⟩:=x;by_cases h0:n=0
 ·subst h0;have:ar (s,0,e) way=0:=by unfold ar;rw[if_pos rfl]
  rw[this];unfold roundN;rw[if_pos rfl];rfl
 ·have:ar (s,n,e) way=sgI s (aX (endR s n e way)):=by unfold ar;rw[if_neg h0]
  rw[this]
  show roundN s n e way=_
  rw[mi s e way h0]
  show jp s (endR s n e way)=_
  generalize endR s n e way=r;unfold jp plP wdP sgI aX wd;by_cases h1:r<553942754166571008
  ·rw[if_neg (by omega),if_pos h1]
   cases s
   ·simp
   ·simp
  ·by_cases h2:8660422083433463808<r
   ·rw[if_neg (by omega),if_neg h1,if_pos h2]
    cases s
    ·simp
    ·simp
   ·rw[if_pos (by omega),if_neg h1,if_neg h2]
    cases s
    ·rw[if_neg Bool.false_ne_true,if_neg Bool.false_ne_true,decide_eq_true (by omega),if_pos rfl,decide_eq_false (by omega),if_neg Bool.false_ne_true]
     congr 1;omega
    ·rw[if_pos rfl,if_pos rfl,decide_eq_true (by omega),if_pos rfl,decide_eq_true (by omega),if_pos rfl]
     congr 1;omega
theorem bP (x y:ap):az x y=boxP (ar x (-1)) (ar y 1):=by
 unfold az boxP;rw[pT,pT]
 cases plP (ar x (-1))<;>cases plP (ar y 1)<;>rfl
theorem sX {n:Nat} (h:n≠0) (k:Nat):aP (n*2^k)=aP n:=by
 cases hi:aP n
 ·exact jx h k hi
 ·unfold aP at hi⊢;rw[decide_eq_true_eq] at hi⊢;rw[cz h];refine⟨by omega,?_⟩;rw[show bl n+k-53=(bl n-53)+k by omega,Nat.pow_add,Nat.mul_mod_mul_right];intro hc;rcases Nat.mul_eq_zero.1 hc with hc|hc
  ·exact hi.2 hc
  ·exact Nat.pos_iff_ne_zero.1 (Nat.two_pow_pos k) hc
theorem gY {n:Nat} (h:n≠0) (k:Nat) (e:Int):rung (n*2^k) e=rung n (e+k):=by
 unfold rung;rw[nw h,cz h]
 congr 2
 omega
theorem kC (s:Bool) {n:Nat} (h:n≠0) (k:Nat) (e way:Int):endR s (n*2^k) e way=endR s n (e+k) way:=by
 unfold endR;rw[gY h,sX h]
theorem zH {n m:Nat} (h0:n≠0) (h:n≤m):bl n≤bl m:=by
 have h1:=bt (Nat.pos_of_ne_zero h0);have h2:=bt (n:=m) (by omega);apply Decidable.byContradiction;intro hc;have:(2:Nat)^bl m≤2^(bl n-1):=Nat.pow_le_pow_right (by decide) (by omega);omega
theorem tX {n m:Nat} (e:Int) (h0:n≠0) (h:n≤m):rung n e≤rung m e∧(rung n e+if aP n then 1 else 0)≤(rung m e+if aP m then 1 else 0):=by
 have hb:=zH h0 h;have m1:=b9 (Nat.pos_of_ne_zero h0);have m2:=b9 (n:=m) (by omega);have i1:∀b:Bool,(0:Int)≤(if b then 1 else 0)∧(if b then(1:Int) else 0)≤1:=by intro b;cases b<;>decide
 by_cases heq:bl n=bl m
 ·have hr:rung n e-rung m e=(mf n:Int)-mf m:=by unfold rung;rw[heq];omega
  by_cases h53:bl n≤53
  ·have e1:aP n=false:=b8 h53;have e2:aP m=false:=b8 (by omega)
   have:mf n≤mf m:=by
    unfold mf;rw[if_pos h53,if_pos (by omega),heq];exact Nat.mul_le_mul_right _ h
   rw[e1,e2];simp only[Bool.false_eq_true,if_false];omega
  ·have f1:mf n=n / 2^(bl m-53):=by unfold mf;rw[if_neg h53,heq]
   have f2:mf m=m / 2^(bl m-53):=by unfold mf;rw[if_neg (by omega)]
   have x1:aP n=decide (n % 2^(bl m-53)≠0):=by unfold aP;rw[heq];simp[show 53<bl m by omega]
   have x2:aP m=decide (m % 2^(bl m-53)≠0):=by unfold aP;simp[show 53<bl m by omega]
   have hp:=Nat.two_pow_pos (bl m-53);have d1:=Nat.div_add_mod n (2^(bl m-53));have d2:=Nat.div_add_mod m (2^(bl m-53));have hle:mf n≤mf m:=by rw[f1,f2];exact Nat.div_le_div_right h
   have hlt:mf n=mf m→n % 2^(bl m-53)≤m % 2^(bl m-53):=by
    intro hc;rw[f1,f2] at hc;rw[hc] at d1;omega
   rw[x1,x2];generalize n % 2^(bl m-53)=r at*;generalize m % 2^(bl m-53)=t at*;refine⟨by omega,?_⟩;by_cases hc:mf n=mf m
   ·have:=hlt hc;by_cases hr0:r=0
    ·have:=(i1 (decide (t≠0))).1;rw[decide_eq_false (show¬r≠0 by omega)];simp only[Bool.false_eq_true,if_false];omega
    ·rw[decide_eq_true (show r≠0 from hr0),decide_eq_true (show t≠0 by omega)];omega
   ·have a1:=(i1 (decide (r≠0))).2;have a2:=(i1 (decide (t≠0))).1;omega
 ·have a1:=(i1 (aP n)).2;have a2:=(i1 (aP m)).1;generalize(if aP n=true then(1:Int) else 0)=i at*;generalize(if aP m=true then(1:Int) else 0)=j at*;unfold rung;omega
def leV (x y:ap):Prop:=sg x.1 (lvA x.2.1 x.2.2 y.2.2)≤sg y.1 (lvB y.2.1 x.2.2 y.2.2)
theorem jf (s:Bool):offS s (-1)=s:=by cases s<;>rfl
theorem mt (s:Bool):offS s 1=!s:=by cases s<;>rfl
theorem cj {x y:ap} (way:Int) (hw:way=-1∨way=1) (h:leV x y):ar x way≤ar y way:=by
 obtain⟨s,n,e⟩:=x;obtain⟨t,m,f⟩:=y;unfold leV at h;simp only at h;have hp1:=Nat.two_pow_pos (e-min e f).toNat
 have hp2:=Nat.two_pow_pos (f-min e f).toNat
 have z1:n≠0→lvA n e f≠0:=fun hn=>Nat.mul_ne_zero hn (by omega)
 have z2:m≠0→lvB m e f≠0:=fun hn=>Nat.mul_ne_zero hn (by omega)
 have z1':n=0→lvA n e f=0:=fun hn=>by unfold lvA;rw[hn,Nat.zero_mul]
 have z2':m=0→lvB m e f=0:=fun hn=>by unfold lvB;rw[hn,Nat.zero_mul]
 have r1:n≠0→endR s n e way=endR s (lvA n e f) (min e f) way:=by
  intro hn;unfold lvA;rw[kC s hn]
  congr 1
  omega
 have r2:m≠0→endR t m f way=endR t (lvB m e f) (min e f) way:=by
  intro hn;unfold lvB;rw[kC t hn]
  congr 1
  omega
 unfold ar;simp only;generalize lvA n e f=N at*;generalize lvB m e f=M at*;have c1:=cP (endR s n e way);have c2:=cP (endR t m f way);by_cases hn:n=0
 ·rw[if_pos hn];have:=z1' hn;subst this;by_cases hm:m=0
  ·rw[if_pos hm];exact Int.le_refl _
  ·rw[if_neg hm];have:=z2 hm
   cases t
   ·unfold sgI;rw[if_neg Bool.false_ne_true];omega
   ·unfold sg at h;simp at h;omega
 ·rw[if_neg hn];have hN:=z1 hn;by_cases hm:m=0
  ·rw[if_pos hm];have:=z2' hm;subst this
   cases s
   ·unfold sg at h;simp at h;omega
   ·unfold sgI;rw[if_pos rfl];omega
  ·rw[if_neg hm];have hM:=z2 hm
   cases s
   ·cases t
    ·have hle:N≤M:=by unfold sg at h;simp at h;exact h
     unfold sgI;rw[if_neg Bool.false_ne_true,if_neg Bool.false_ne_true];apply fK;rw[r1 hn,r2 hm];have:=tX (min e f) hN hle;unfold endR;rcases hw with rfl|rfl
     ·simp only[jf,Bool.false_and,Bool.false_eq_true,if_false,Int.add_zero];exact this.1
     ·simp only[mt,Bool.not_false,Bool.true_and];exact this.2
    ·exfalso;unfold sg at h;simp at h;omega
   ·cases t
    ·unfold sgI;rw[if_pos rfl,if_neg Bool.false_ne_true];omega
    ·have hle:M≤N:=by unfold sg at h;simp at h;exact h
     unfold sgI;rw[if_pos rfl,if_pos rfl]
     have:aX (endR true m f way)≤aX (endR true n e way):=by
      apply fK;rw[r1 hn,r2 hm];have:=tX (min e f) hM hle;unfold endR;rcases hw with rfl|rfl
      ·simp only[jf,Bool.true_and];exact this.2
      ·simp only[mt,Bool.not_true,Bool.false_and,Bool.false_eq_true,if_false,Int.add_zero];exact this.1
     omega
def vr (r:Nat):Nat:=if r<4503599627370496 then r else(4503599627370496+r % 4503599627370496)*2^(r / 4503599627370496-1)
theorem zj (r:Nat):vr r<vr (r+1):=by
 unfold vr;by_cases h1:r+1<4503599627370496
 ·rw[if_pos (by omega),if_pos h1];omega
 ·rw[if_neg h1];by_cases h2:r<4503599627370496
  ·rw[if_pos h2];have e:r+1=4503599627370496:=by omega
   rw[e];have:4503599627370496 / 4503599627370496-1=0:=by decide
   rw[this,Nat.pow_zero];omega
  ·rw[if_neg h2];by_cases h3:r % 4503599627370496+1=4503599627370496
   ·have e1:(r+1) % 4503599627370496=0:=by omega
    have e2:(r+1) / 4503599627370496-1=(r / 4503599627370496-1)+1:=by omega
    rw[e1,e2,Nat.pow_succ];have hp:=Nat.two_pow_pos (r / 4503599627370496-1);generalize 2^(r / 4503599627370496-1)=g at*;have e3:r % 4503599627370496=4503599627370495:=by omega
    rw[e3];omega
   ·have e1:(r+1) % 4503599627370496=r % 4503599627370496+1:=by omega
    have e2:(r+1) / 4503599627370496-1=r / 4503599627370496-1:=by omega
    rw[e1,e2];exact Nat.mul_lt_mul_of_pos_right (by omega) (Nat.two_pow_pos _)
theorem zU {r t:Nat} (h:r<t):vr r<vr t:=by
 obtain⟨k,rfl⟩:∃k,t=r+1+k:=⟨t-(r+1),by omega⟩;clear h
 induction k with
 |zero=>exact zj r
 |succ k ih=>exact Nat.lt_trans ih (zj (r+1+k))
theorem Ic:vr 0=0:=rfl
theorem jJ {s:Bool} {r:Nat} (h:r<9218868437227405312):∃m e,double.read (wd s r)= .number s m e∧-1074≤e∧m*2^(e+1074).toNat=vr r:=by
 have hsw:double.signWeight=9223372036854775808:=rfl;have hbn:double.binade=4503599627370496:=rfl;have hir:double.infRung=9218868437227405312:=rfl;have hlp:double.leastPlace=-1074:=rfl;have hm:wd s r % 9223372036854775808=r:=by unfold wd;split<;>omega
 have hd:(wd s r / 9223372036854775808 % 2==1)=s:=by
  unfold wd
  cases s
  ·rw[if_neg Bool.false_ne_true,show(r+0) / 9223372036854775808 % 2=0 by omega];rfl
  ·rw[if_pos rfl,show(r+9223372036854775808) / 9223372036854775808 % 2=1 by omega];rfl
 unfold Format.read;simp only[hsw,hbn,hir,hlp,hm,hd];unfold vr;by_cases hs:r<4503599627370496
 ·rw[if_pos hs,if_pos hs];exact⟨_,_,rfl,by omega,by simp⟩
 ·rw[if_neg hs,if_pos h,if_neg hs];refine⟨_,_,rfl,by omega,?_⟩
  congr 2
  omega
theorem fJ (s:Bool):double.read (wd s 9218868437227405312)= .infinity s:=by cases s<;>rfl
theorem Gc {x y g:Int} (hg:0<g):compare (x*g) (y*g)=compare x y:=by
 rcases(show x<y∨x=y∨y<x by omega) with h|h|h
 ·rw[bX h,bX (Int.mul_lt_mul_of_pos_right h hg)]
 ·rw[cR h,cR (by rw[h])]
 ·rw[bJ h,bJ (Int.mul_lt_mul_of_pos_right h hg)]
theorem bG (s:Bool) (n k:Nat):sg s n*(k:Int)=sg s (n*k):=by
 unfold sg
 cases s
 ·rw[if_neg Bool.false_ne_true,if_neg Bool.false_ne_true,Int.natCast_mul]
 ·rw[if_pos rfl,if_pos rfl,Int.natCast_mul,Int.neg_mul]
theorem GO (s t:Bool) (r q:Nat):compare (sg s (vr r)) (sg t (vr q))=compare (sg s r) (sg t q):=by
 have z:∀r,(vr r=0↔r=0):=by
  intro r;constructor
  ·intro h;rcases Nat.eq_zero_or_pos r with h'|h'
   ·exact h'
   ·have:=zU h';omega
  ·rintro rfl;rfl
 have zr:=z r;have zq:=z q;have l1:r<q→vr r<vr q:=zU;have l2:q<r→vr q<vr r:=zU;have l3:r=q→vr r=vr q:=fun h=>by rw[h]
 generalize vr r=a at*;generalize vr q=b at*
 have key:∀x y x' y':Int,(x<y↔x'<y')→(x=y↔x'=y')→compare x y=compare x' y':=by
  intro x y x' y' h1 h2;rcases(show x<y∨x=y∨y<x by omega) with h|h|h
  ·rw[bX h,bX (h1.1 h)]
  ·rw[cR h,cR (h2.1 h)]
  ·rw[bJ h,bJ (by omega)]
 apply key<;>unfold sg<;>cases s<;>cases t<;>simp<;>omega
theorem iO {s t:Bool} {r q:Nat} (hr:r≤9218868437227405312) (hq:q≤9218868437227405312):double.order (wd s r) (wd t q)=some (compare (sg s r) (sg t q)):=by
 unfold Format.order;rcases(show r<9218868437227405312∨r=9218868437227405312 by omega) with h1|h1<;>rcases(show q<9218868437227405312∨q=9218868437227405312 by omega) with h2|h2
 ·obtain⟨m,i,e1,e2,e3⟩:=jJ (s:=s) h1;obtain⟨n,j,f1,f2,f3⟩:=jJ (s:=t) h2;rw[e1,f1];simp only[Datum.order,c9];rw[←GO s t r q,←e3,←f3]
  congr 1
  have hg:(0:Int)<((2^(min i j+1074).toNat:Nat):Int):=by
   have:=Nat.two_pow_pos (min i j+1074).toNat
   omega
  rw[←Gc hg,bG,bG,Nat.mul_assoc,Nat.mul_assoc,←Nat.pow_add,←Nat.pow_add]
  congr 4<;>congr 1<;>omega
 ·obtain⟨m,i,e1,e2,e3⟩:=jJ (s:=s) h1;subst h2;rw[e1,fJ];simp only[Datum.order];unfold sg
  cases t
  ·rw[bX (by cases s<;>simp<;>omega)];rfl
  ·rw[bJ (by cases s<;>simp<;>omega)];rfl
 ·obtain⟨m,i,e1,e2,e3⟩:=jJ (s:=t) h2;subst h1;rw[e1,fJ];simp only[Datum.order];unfold sg
  cases s
  ·rw[bJ (by cases t<;>simp<;>omega)];rfl
  ·rw[bX (by cases t<;>simp<;>omega)];rfl
 ·subst h1;subst h2;rw[fJ,fJ]
  cases s<;>cases t<;>rfl
structure FR (d:Nat) (p:Int):Prop where
 lt:d<18446744073709551616
 nz:d≠9223372036854775808
 num:d % 9223372036854775808≤9218868437227405312
 pos:aW d=p
theorem gZ {d:Nat} (h:d<18446744073709551616):wd (decide (9223372036854775808≤d)) (d % 9223372036854775808)=d:=by
 unfold wd;by_cases hd:9223372036854775808≤d
 ·rw[decide_eq_true hd,if_pos rfl];omega
 ·rw[decide_eq_false hd,if_neg Bool.false_ne_true];omega
def kw (d:Nat):Int:=sg (decide (9223372036854775808≤d)) (d % 9223372036854775808)
theorem lv {d f:Nat} {p q:Int} (hd:FR d p) (hf:FR f q):double.order d f=some (compare (kw d) (kw f)):=by
 have:=iO (s:=decide (9223372036854775808≤d)) (t:=decide (9223372036854775808≤f)) hd.num hf.num;rwa [gZ hd.lt,gZ hf.lt] at this
theorem jH (d:Nat):aW d=if kw d=0 then 0 else sgI (decide (kw d<0)) (aX (kw d).natAbs):=by
 unfold aW kw sg;by_cases h0:d % 9223372036854775808=0
 ·rw[if_pos h0,h0];split<;>simp
 ·rw[if_neg h0];by_cases hd:9223372036854775808≤d
  ·rw[decide_eq_true hd,if_pos rfl,if_neg (by omega),decide_eq_true (by omega)]
   congr 2;omega
  ·rw[decide_eq_false hd,if_neg Bool.false_ne_true,if_neg (by omega),decide_eq_false (by omega)]
   congr 2
theorem fN {x y:Int} (h:x≤y):(if x=0 then 0 else sgI (decide (x<0)) (aX x.natAbs))≤(if y=0 then 0 else sgI (decide (y<0)) (aX y.natAbs)):=by
 have c1:=cP (x.natAbs:Int);have c2:=cP (y.natAbs:Int);rcases(show x<0∨x=0∨0<x by omega) with hx|hx|hx
 ·rw[if_neg (by omega),decide_eq_true hx];rcases(show y<0∨y=0∨0<y by omega) with hy|hy|hy
  ·rw[if_neg (by omega),decide_eq_true hy];have:=fK (r:=(y.natAbs:Int)) (t:=(x.natAbs:Int)) (by omega);unfold sgI;rw[if_pos rfl,if_pos rfl];omega
  ·rw[if_pos hy];unfold sgI;rw[if_pos rfl];omega
  ·rw[if_neg (by omega),decide_eq_false (by omega)];unfold sgI;rw[if_pos rfl,if_neg Bool.false_ne_true];omega
 ·rw[if_pos hx];rcases(show y=0∨0<y by omega) with hy|hy
  ·rw[if_pos hy];exact Int.le_refl _
  ·rw[if_neg (by omega),decide_eq_false (by omega)];unfold sgI;rw[if_neg Bool.false_ne_true];omega
 ·rw[if_neg (by omega),if_neg (by omega),decide_eq_false (by omega),decide_eq_false (by omega)];unfold sgI;rw[if_neg Bool.false_ne_true,if_neg Bool.false_ne_true];exact fK (by omega)
def fmin (x y:Nat):Nat:=if kw x<kw y then x else y
def fmax (x y:Nat):Nat:=if kw x<kw y then y else x
theorem FR.mn {d f:Nat} {p q:Int} (hd:FR d p) (hf:FR f q):FR (fmin d f) (min p q):=by
 have h1:=jH d;have h2:=jH f;rw[hd.pos] at h1;rw[hf.pos] at h2;unfold fmin;by_cases h:kw d<kw f
 ·have:=fN (x:=kw d) (y:=kw f) (by omega);rw[if_pos h,show min p q=p by omega];exact hd
 ·have:=fN (x:=kw f) (y:=kw d) (by omega);rw[if_neg h,show min p q=q by omega];exact hf
theorem FR.mx {d f:Nat} {p q:Int} (hd:FR d p) (hf:FR f q):FR (fmax d f) (max p q):=by
 have h1:=jH d;have h2:=jH f;rw[hd.pos] at h1;rw[hf.pos] at h2;unfold fmax;by_cases h:kw d<kw f
 ·have:=fN (x:=kw d) (y:=kw f) (by omega);rw[if_pos h,show max p q=q by omega];exact hf
 ·have:=fN (x:=kw f) (y:=kw d) (by omega);rw[if_neg h,show max p q=p by omega];exact hd
theorem CK {d f:Nat} {p q:Int} (hd:FR d p) (hf:FR f q) (h:kw d=kw f):d=f:=by
 have a1:=hd.lt;have a2:=hd.nz;have b1:=hf.lt;have b2:=hf.nz;unfold kw sg at h;by_cases x:9223372036854775808≤d<;>by_cases y:9223372036854775808≤f
 ·rw[decide_eq_true x,decide_eq_true y,if_pos rfl,if_pos rfl] at h;omega
 ·rw[decide_eq_true x,decide_eq_false y,if_pos rfl,if_neg Bool.false_ne_true] at h;omega
 ·rw[decide_eq_false x,decide_eq_true y,if_pos rfl,if_neg Bool.false_ne_true] at h;omega
 ·rw[decide_eq_false x,decide_eq_false y,if_neg Bool.false_ne_true,if_neg Bool.false_ne_true] at h;omega
theorem bz {P:Program} (w:World) (ts:Array TypeId) (t:TypeId) {x y:Nat} {p q:Int} (hx:FR x p) (hy:FR y q):(Builtin.min_ ts t #[fV x,fV y]).run P w= .ok (fV (fmin x y)) w:=by
 have ho:FloatKind.f64.format.order x y=some (compare (kw x) (kw y)):=lv hx hy;rcases(show kw x<kw y∨kw x=kw y∨kw y<kw x by omega) with h|h|h
 ·rw[bX h] at ho;simp[Builtin.min_,Builtin.min2,ho,fmin,h]
 ·rw[cR h] at ho;have:=CK hx hy h;subst this;simp[Builtin.min_,Builtin.min2,ho,fmin]
 ·rw[bJ h] at ho;have:¬kw x<kw y:=by omega
  simp[Builtin.min_,Builtin.min2,ho,fmin,this]
theorem bA {P:Program} (w:World) (ts:Array TypeId) (t:TypeId) {x y:Nat} {p q:Int} (hx:FR x p) (hy:FR y q):(Builtin.max_ ts t #[fV x,fV y]).run P w= .ok (fV (fmax x y)) w:=by
 have ho:FloatKind.f64.format.order x y=some (compare (kw x) (kw y)):=lv hx hy;rcases(show kw x<kw y∨kw x=kw y∨kw y<kw x by omega) with h|h|h
 ·rw[bX h] at ho;simp[Builtin.max_,Builtin.max2,ho,fmax,h]
 ·rw[cR h] at ho;have:=CK hx hy h;subst this;simp[Builtin.max_,Builtin.max2,ho,fmax]
 ·rw[bJ h] at ho;have:¬kw x<kw y:=by omega
  simp[Builtin.max_,Builtin.max2,ho,fmax,this]
theorem gG (d:Nat) (h0:d % 9223372036854775808≠0):aW d=if 9223372036854775808≤d then -aX ((d % 9223372036854775808:Nat):Int) else aX ((d % 9223372036854775808:Nat):Int):=by
 unfold aW sgI;rw[if_neg h0];by_cases hd:9223372036854775808≤d
 ·rw[decide_eq_true hd,if_pos rfl,if_pos hd]
 ·rw[decide_eq_false hd,if_neg Bool.false_ne_true,if_neg hd]
theorem qF (d:Nat) (h0:d % 9223372036854775808≠0):((aW d).natAbs:Int)=aX ((d % 9223372036854775808:Nat):Int):=by
 have:=cP ((d % 9223372036854775808:Nat):Int);rw[gG d h0];split<;>omega
theorem cZ (r:Int):(r<553942754166571008∧aX r=553942754166571007)∨(8660422083433463808<r∧aX r=8660422083433463809)∨(553942754166571008≤r∧r≤8660422083433463808∧aX r=r):=by
 unfold aX;by_cases h1:r<553942754166571008
 ·left;exact⟨h1,if_pos h1⟩
 ·right;by_cases h2:8660422083433463808<r
  ·left;exact⟨h2,by rw[if_neg h1,if_pos h2]⟩
  ·right;exact⟨by omega,by omega,by rw[if_neg h1,if_neg h2]⟩
theorem FR.plain {d:Nat} {p:Int} (h:FR d p):(au d).isSome=plP p:=by
 have h1:=h.num;rw[←h.pos];by_cases h0:d % 9223372036854775808=0
 ·have:aW d=0:=by unfold aW;rw[if_pos h0]
  rw[this];unfold au;rw[if_pos (by omega)];rfl
 ·have ha:=qF d h0;unfold au plP;rw[if_neg (by omega)];rcases cZ ((d % 9223372036854775808:Nat):Int) with⟨c1,c2⟩|⟨c1,c2⟩|⟨c1,c3,c2⟩
  ·rw[if_pos (by omega),decide_eq_false (by omega)];rfl
  ·rw[if_pos (by omega),decide_eq_false (by omega)];rfl
  ·rw[if_neg (by omega)];rw[show decide (aW d=0∨553942754166571008≤(aW d).natAbs∧(aW d).natAbs≤8660422083433463808)=true from decide_eq_true (by omega)];rfl
theorem FR.word {d:Nat} {p:Int} (h:FR d p) (hp:plP p=true):d=wdP p:=by
 have h1:=h.num;have h2:=h.lt;have h3:=h.nz;rw[←h.pos] at hp⊢;by_cases h0:d % 9223372036854775808=0
 ·have:aW d=0:=by unfold aW;rw[if_pos h0]
  rw[this]
  show d=0
  omega
 ·have ha:=qF d h0;have hc:=gG d h0;unfold plP at hp;rw[decide_eq_true_eq] at hp;unfold wdP wd;rcases cZ ((d % 9223372036854775808:Nat):Int) with⟨c1,c2⟩|⟨c1,c2⟩|⟨c1,c3,c2⟩
  ·omega
  ·omega
  ·by_cases hd:9223372036854775808≤d
   ·rw[if_pos hd] at hc;rw[decide_eq_true (by omega),if_pos rfl];omega
   ·rw[if_neg hd] at hc;rw[decide_eq_false (by omega),if_neg Bool.false_ne_true];omega
theorem gN {b:Nat} {x:ap} (hb:b<18446744073709551616) (h:au b=some x) (way:Int):ar x way=aW b:=by
 unfold au at h;split at h
 ·rename_i h0
  cases h
  unfold ar aW;rw[if_pos rfl,if_pos (by omega)]
 ·rename_i h0
  split at h
  ·cases h
  ·rename_i h1
   cases h
   have hm:b % 9223372036854775808≠0:=by omega
   unfold ar;simp only;rw[if_neg (by omega),gG b hm];have hbl:bl (b % 4503599627370496+4503599627370496)=53:=eB (by omega) (by omega)
   have hr:endR (decide (b / 9223372036854775808=1)) (b % 4503599627370496+4503599627370496) (((b / 4503599627370496 % 2048:Nat):Int)-1075) way=((b % 9223372036854775808:Nat):Int):=by
    unfold endR rung mf;rw[b8 (by omega),hbl,Bool.and_false,if_neg Bool.false_ne_true,if_pos (by omega)];simp only[Nat.sub_self,Nat.pow_zero,Nat.mul_one];omega
   rw[hr];unfold sgI;by_cases hd:9223372036854775808≤b
   ·rw[decide_eq_true (by omega),if_pos rfl,if_pos hd]
   ·rw[decide_eq_false (by omega),if_neg Bool.false_ne_true,if_neg hd]
def bj (e z:Int) (x:ap):Prop:=dE e z x.1 x.2.1 x.2.2
theorem jw (e z:Int):bj e z (decide (z<0),z.natAbs,e):=by
 intro c _ _;unfold sg;by_cases h:z<0
 ·simp only[decide_eq_true h,if_true];rw[Int.natCast_mul,show((z.natAbs:Nat):Int)=-z by omega,Int.neg_mul,Int.neg_neg]
 ·simp only[decide_eq_false h,Bool.false_eq_true,if_false];rw[Int.natCast_mul,show((z.natAbs:Nat):Int)=z by omega]
theorem vW {s t:Bool} {n m k:Nat} (hk:0<k) (h:sg s (n*k)≤sg t (m*k)):sg s n≤sg t m:=by
 rw[←bG,←bG] at h;exact Int.le_of_mul_le_mul_right h (by omega)
theorem bY {e z z':Int} {x y:ap} (hx:bj e z x) (hy:bj e z' y) (h:z≤z'):leV x y:=by
 obtain⟨s,n,p⟩:=x;obtain⟨t,m,q⟩:=y;unfold leV lvA lvB;simp only;have a:=hx (min e (min p q)) (by simp only;omega) (by omega);have b:=hy (min e (min p q)) (by simp only;omega) (by omega);simp only at a b;apply vW (k:=2^(min p q-min e (min p q)).toNat) (Nat.two_pow_pos _);rw[Nat.mul_assoc,Nat.mul_assoc,←Nat.pow_add,←Nat.pow_add];rw[show(p-min p q).toNat+(min p q-min e (min p q)).toNat=(p-min e (min p q)).toNat by omega,show(q-min p q).toNat+(min p q-min e (min p q)).toNat=(q-min e (min p q)).toNat by omega,a,b];exact Int.mul_le_mul_of_nonneg_right h (Int.natCast_nonneg _)
theorem mV {e z:Int} {x:ap} (hx:bj e z x) (way:Int) (hw:way=-1∨way=1):ar x way=ar (decide (z<0),z.natAbs,e) way:=by
 have h1:=cj way hw (bY hx (jw e z) (Int.le_refl _));have h2:=cj way hw (bY (jw e z) hx (Int.le_refl _));omega
theorem dx {e a b:Int} {x y:ap} (hx:bj e a x) (hy:bj e b y):bj e (a+b) (sumN x.1 x.2.1 x.2.2 y.1 y.2.1 y.2.2):=by
 obtain⟨s,n,p⟩:=x;obtain⟨t,m,q⟩:=y;simp only
 have key:∀c,c≤min p q→c≤e→(sg s (lvA n p q)+sg t (lvB m p q))*((2^(min p q-c).toNat:Nat):Int)=(a+b)*((2^(e-c).toNat:Nat):Int):=by
  intro c h1 h2;have a':=hx c (by simp only;omega) h2;have b':=hy c (by simp only;omega) h2;simp only at a' b';rw[Int.add_mul,Int.add_mul,←a',←b',bG,bG];unfold lvA lvB;rw[Nat.mul_assoc,Nat.mul_assoc,←Nat.pow_add,←Nat.pow_add];rw[show(p-min p q).toNat+(min p q-c).toNat=(p-c).toNat by omega,show(q-min p q).toNat+(min p q-c).toNat=(q-c).toNat by omega]
 generalize hA:lvA n p q=A at*;generalize hB:lvB m p q=B at*;unfold sumN;rw[hA,hB];by_cases hst:s=t
 ·subst hst;rw[if_pos rfl];intro c h1 h2;rw[←key c h1 h2,←bG]
  congr 1
  unfold sg
  cases s<;>simp<;>omega
 ·rw[if_neg hst];have ht:t=!s:=by cases s<;>cases t<;>simp_all
  subst ht;by_cases hAB:A=B
  ·rw[if_pos hAB]
   have hz:a+b=0:=by
    have:=key (min (min p q) e) (by omega) (by omega);subst hAB;have e0:sg s A+sg (!s) A=0:=by unfold sg;cases s<;>simp<;>omega
    rw[e0,Int.zero_mul] at this;have hp:=Nat.two_pow_pos (e-min (min p q) e).toNat
    rcases Int.mul_eq_zero.1 this.symm with h|h
    ·exact h
    ·omega
   intro c h1 h2;rw[hz,Int.zero_mul];simp[sg]
  ·rw[if_neg hAB];by_cases hlt:B<A
   ·rw[if_pos hlt];intro c h1 h2;rw[←key c h1 h2,←bG]
    congr 1
    unfold sg
    cases s<;>simp<;>omega
   ·rw[if_neg hlt];intro c h1 h2;rw[←key c h1 h2,←bG]
    congr 1
    unfold sg
    cases s<;>simp<;>omega
theorem lF (s:Bool) {n:Nat} {e:Int} (way:Int) (h0:n≠0) (h1:0<endR s n e way) (h2:endR s n e way≤9218868437227405312):FR (wd s (endR s n e way).toNat) (ar (s,n,e) way):=by
 have hp:ar (s,n,e) way=sgI s (aX (endR s n e way)):=by unfold ar;rw[if_neg h0]
 rw[hp];generalize endR s n e way=r at*;have hm:wd s r.toNat % 9223372036854775808=r.toNat:=by unfold wd;split<;>omega
 refine⟨kz (by omega),?_,by omega,?_⟩
 ·intro hc;rw[hc] at hm;omega
 ·rw[gG _ (by omega),hm,show((r.toNat:Nat):Int)=r by omega];unfold sgI wd
  cases s
  ·rw[if_neg Bool.false_ne_true,if_neg (by omega),if_neg Bool.false_ne_true]
  ·rw[if_pos rfl,if_pos (by omega),if_pos rfl]
theorem jb:FR 0 0:=⟨by omega,by omega,by omega,rfl⟩
theorem wB {b:Nat} (hb:b<18446744073709551616) (hz:b≠9223372036854775808) (hp:(au b).isSome=true):FR b (aW b):=by
 refine⟨hb,hz,?_,rfl⟩;apply Decidable.byContradiction;intro hc;unfold au at hp;rw[if_neg (by omega),if_pos (by omega)] at hp
 cases hp
theorem cJ {n:Nat} (e:Int) (h0:n≠0):(e+bl n+1022)*4503599627370496≤rung n e∧rung n e<(e+bl n+1023)*4503599627370496:=by
 have:=b9 (Nat.pos_of_ne_zero h0);unfold rung;omega
theorem cO (s:Bool) {n:Nat} (e way:Int):rung n e≤endR s n e way∧endR s n e way≤rung n e+1:=by
 unfold endR;split<;>omega
theorem nk {e z:Int} (h0:z≠0) (h1:-1022≤e) (h2:e+bl z.natAbs≤1021):fd e (nearI z)=fd e z:=by
 have hn:z.natAbs≠0:=by omega
 obtain⟨f1,f2,f3,f4⟩:=dz hn;have habs:=j4 z;have hsgn:=dW z
 have hlt:decide (nearI z<0)=decide (z<0):=by
  apply decide_eq_decide.2;by_cases h:z<0
  ·have:=hsgn.1 h;omega
  ·have:=hsgn.2 h;omega
 have hN0:nearI z≠0:=by omega
 rw[kI hN0 ⟨by omega,by rw[habs];omega⟩,kI h0 ⟨by omega,by omega⟩,habs,hlt,ie f2,f3];simp
theorem pi (z:Int):(if z-nearI z=0 then Ordering.eq else if z-nearI z<0 then .lt else .gt)=gk (decide (z<0)) z.natAbs:=by
 obtain⟨c1,c2,c3,c4,c5⟩:=t8 z.natAbs;have hsgn:=dW z;unfold gk;by_cases h:z<0
 ·have hs:=hsgn.1 h;rw[decide_eq_true h]
  cases hi:aP z.natAbs
  ·have:=c1 hi;rw[if_pos (by omega),if_pos rfl]
  ·rw[if_neg (show¬true=false by simp)]
   cases hu:nup z.natAbs
   ·have:=c3 hi hu;rw[if_neg (by omega),if_pos (by omega)];rfl
   ·have:=c2 hi hu;rw[if_neg (by omega),if_neg (by omega)];rfl
 ·have hs:=hsgn.2 h;rw[decide_eq_false h]
  cases hi:aP z.natAbs
  ·have:=c1 hi;rw[if_pos (by omega),if_pos rfl]
  ·rw[if_neg (show¬true=false by simp)]
   cases hu:nup z.natAbs
   ·have:=c3 hi hu;rw[if_neg (by omega),if_neg (by omega)];rfl
   ·have:=c2 hi hu;rw[if_neg (by omega),if_pos (by omega)];rfl
def oM (e z:Int) (d u:Nat):Prop:=FR d (ar (decide (z<0),z.natAbs,e) (-1))∧FR u (ar (decide (z<0),z.natAbs,e) 1)
theorem u5 {e z:Int} {M:Nat} (he1:-1022≤e) (he2:e+M≤1010) (h:z.natAbs<8*2^M):eW e z∧e+bl z.natAbs≤1020:=by
 have:bl z.natAbs≤M+3:=bQ (by rw[Nat.pow_add];omega);exact⟨⟨he1,by omega⟩,by omega⟩
theorem sn {z:Int} {M:Nat} {k:Nat} (h:z.natAbs≤2^k*2^M):(nearI z).natAbs≤2^k*2^M:=by
 have hp:Pw ((2^k*2^M:Nat):Int):=⟨k+M,by rw[Nat.pow_add]⟩;have r:=cU hp (Int.dvd_refl _) (by omega);have h1:=zo (z:=z) r (by omega);have h2:=iW (z:=z) (fE r) (by omega);omega
def bF (f:Nat) (args:Array Value) (d u:Nat):Prop:=∀w:World,ax f args w fun ev w'=>ev= .returned (gF d u)∧Below w.heap.size w w'
theorem mg {e z:Int} {M:Nat} (he1:-1022≤e) (he2:e+M≤1010) (hz:z.natAbs<2*2^M) (hr:(z-nearI z).natAbs<8*2^M):
  ∃d u,oM e z d u∧bF 141 #[fV (fd e z),fV (fd e (z-nearI z))] d u:=by
 by_cases h0:z=0
 ·subst h0;rw[AO,Int.sub_self,eD];exact⟨0,0,⟨jb,jb⟩,fun w=>jo 0 0 w rfl⟩
 ·obtain⟨hF,hF2⟩:=u5 he1 he2 hr;have hq:=qR hF (by omega);rw[pi] at hq;have hbl:bl z.natAbs≤M+1:=bQ (by rw[Nat.pow_succ];omega);have hbp:=eK (n:=z.natAbs) (by omega);have hn:z.natAbs≠0:=by omega
  have rb:=cJ e hn;have e1:=cO (decide (z<0)) (n:=z.natAbs) e (-1);have e2:=cO (decide (z<0)) (n:=z.natAbs) e 1;exact⟨_,_,⟨lF _ (-1) hn (by omega) (by omega),lF _ 1 hn (by omega) (by omega)⟩,fun w=>jn (decide (z<0)) z.natAbs e _ w hn (by omega) (by omega) hq⟩
theorem EC {e a b:Int} {M:Nat} (he1:-1022≤e) (he2:e+M≤1010) (ha:a.natAbs<2^M) (hb:b.natAbs<2^M) (ra:Rep a) (rb:Rep b) (ok:ff a b):
  ∃d u,oM e (a+b) d u∧bF 89 #[fV (fd e a),fV (fd e b)] d u:=by
 unfold ff at ok;have hN:=sn (z:=a+b) (M:=M) (k:=1) (by omega);have hV:=sn (z:=nearI (a+b)-a) (M:=M) (k:=2) (by omega);have rN:=dB (a+b);have rV:=dB (nearI (a+b)-a);have key:∀z:Int,z.natAbs<8*2^M→eW e z:=fun z h=>(u5 he1 he2 h).1
 have fdn:∀z:Int,z.natAbs<8*2^M→fd e (nearI z)=fd e z:=by
  intro z h;by_cases h0:z=0
  ·subst h0;rfl
  ·exact nk h0 he1 (by have:=(u5 he1 he2 h).2;omega)
 obtain⟨d,u,hE,hA⟩:=mg (e:=e) (z:=a+b) (M:=M) he1 he2 (by omega) (by omega);have nN:=fdn (a+b) (by omega);have nV:=fdn (nearI (a+b)-a) (by omega);generalize nearI (a+b)=N at*;generalize nearI (N-a)=V at*;generalize 2^M=g at*;obtain⟨o1,o2,o3,o4⟩:=ok;have h1:=lm (key a (by omega)) (key b (by omega)) ra rb (key (a+b) (by omega));rw[←nN] at h1;have h2:=eF (key N (by omega)) (key a (by omega)) rN ra (key (N-a) (by omega));rw[←nV] at h2;have h3:=eF (key N (by omega)) (key V (by omega)) rN rV (key (N-V) (by omega));have h4:=eF (key a (by omega)) (key (N-V) (by omega)) ra o1 (key (a-(N-V)) (by omega));have h5:=eF (key b (by omega)) (key V (by omega)) rb rV (key (b-V) (by omega));have h6:=lm (key (a-(N-V)) (by omega)) (key (b-V) (by omega)) o2 o3 (key _ (by omega));rw[show a-(N-V)+(b-V)=a+b-N by omega] at h6;rw[←nN] at hA;exact⟨d,u,hE,fun w=>nD _ _ _ _ _ _ _ _ _ _ w h1 h2 h3 h4 h5 h6 hA⟩
theorem qS (e:Int) (s:Bool) (p:Int):dE e 0 s 0 p:=by
 intro c _ _;rw[Nat.zero_mul,Int.zero_mul]
 cases s<;>rfl
theorem Ac {e a:Int} {M:Nat} (he1:-1022≤e) (he2:e+M≤1010) (ha:a.natAbs<2^M) (ra:Rep a):
  ∃d u,oM e a d u∧bF 89 #[fV (fd e a),fV 9223372036854775808] d u:=by
 have key:∀z:Int,z.natAbs<8*2^M→eW e z:=fun z h=>(u5 he1 he2 h).1
 obtain⟨d,u,hE,hA⟩:=mg (e:=e) (z:=a) (M:=M) he1 he2 (by omega) (by rw[jG ra];omega);rw[jG ra,Int.sub_self,eD] at hA
 have h1:double.add (fd e a) 9223372036854775808=some (fd e a):=by
  obtain⟨s,m,p,h1,h2,h3,h4⟩:=i9 (key a (by omega)) ra;have hz:double.read 9223372036854775808= .number true 0 (-1074):=rfl;unfold Format.add;rw[h1,hz];have:=jc h2 (qS e true (-1074)) (by rw[Int.add_zero];exact key a (by omega)) (fun h=>by rw[h3 (by omega)];rfl);rwa [Int.add_zero] at this
 have h2:=eF (key a (by omega)) (key a (by omega)) ra ra (by rw[Int.sub_self];exact key 0 (by omega));rw[Int.sub_self,eD] at h2;have h3:=eF (key a (by omega)) (key 0 (by omega)) ra iQ (by rw[Int.sub_zero];exact key a (by omega));rw[Int.sub_zero,eD] at h3;have h5:double.sub 9223372036854775808 0=some 9223372036854775808:=rfl;have h6:double.add 0 9223372036854775808=some 0:=rfl;exact⟨d,u,hE,fun w=>nD _ _ _ _ _ _ _ _ _ _ w h1 h2 h3 h2 h5 h6 hA⟩
def vp (x:ap):Int:=sg x.1 (x.2.1*2^(x.2.2+953).toNat)
def eA (x:ap):Prop:=(x=(false,0,0))∨(4503599627370496≤x.2.1∧x.2.1<9007199254740992∧-952≤x.2.2∧x.2.2≤848)
theorem cD {b:Nat} {x:ap} (h:au b=some x):eA x:=by
 unfold au at h;split at h
 ·cases h;left;rfl
 ·split at h
  ·cases h
  ·cases h
   right;simp only;omega
theorem eA.means {x:ap} (h:eA x):bj (-953) (vp x) x:=by
 obtain⟨s,n,e⟩:=x;intro c h1 h2;unfold vp;simp only at*;rw[bG,Nat.mul_assoc,←Nat.pow_add];rcases h with h|h
 ·cases h;simp
 ·simp only at h
  congr 3
  omega
theorem eA.vp_abs {x:ap} (_h:eA x):(vp x).natAbs=x.2.1*2^(x.2.2+953).toNat:=(oZ rfl).symm
theorem pB:vp (false,0,0)=0:=by
 unfold vp;rw[Nat.zero_mul];rfl
theorem eA.rep {x:ap} (h:eA x):Rep (vp x):=by
 show aP _=false
 rw[h.vp_abs];rcases h with h|h
 ·cases h
  rw[Nat.zero_mul];rfl
 ·exact jx (by omega) _ (b8 (by rw[eB h.1 h.2.1];omega))
theorem cW {a b:Nat} (h:a≤b):(2:Nat)^a≤2^b:=Nat.pow_le_pow_right (by decide) h
def plN:Nat:=1802
def plM:Nat:=53+plN
theorem mH:plN=1802:=rfl
theorem mF:plM=53+plN:=rfl
theorem eA.lt {x:ap} (h:eA x):(vp x).natAbs<2^plM:=by
 rw[h.vp_abs];rcases h with h|h
 ·cases h
  rw[Nat.zero_mul];exact Nat.two_pow_pos _
 ·have h1:(2:Nat)^(x.2.2+953).toNat≤2^plN:=cW (by have:=mH;omega);rw[mF,Nat.pow_add];exact Nat.lt_of_lt_of_le (Nat.mul_lt_mul_of_pos_right (by rw[p53];exact h.2.1) (Nat.two_pow_pos _)) (Nat.mul_le_mul_left _ h1)
theorem eA.big {x:ap} (h:eA x):vp x=0∨9007199254740992≤(vp x).natAbs:=by
 rcases h with h|h
 ·cases h;left;exact pB
 ·right;rw[eA.vp_abs (Or.inr h)];have h1:(2:Nat)^1≤2^(x.2.2+953).toNat:=cW (by omega);have:=Nat.mul_le_mul h.1 h1;omega
theorem qt {b:Nat} {x:ap} (hb:b<18446744073709551616) (hz:b≠9223372036854775808) (h:au b=some x):b=fd (-953) (vp x):=by
 have hp:=cD h;have hpos:=gN hb h 1;unfold au at h;split at h
 ·cases h
  rw[pB,eD];omega
 ·rename_i h0
  split at h
  ·cases h
  ·rename_i h1
   cases h
   have hbl:bl (b % 4503599627370496+4503599627370496)=53:=eB (by omega) (by omega);have hn:b % 4503599627370496+4503599627370496≠0:=by omega
   have habs:=hp.vp_abs;have hrep:=hp.rep;simp only at habs;have hbs:=cz hn (((b / 4503599627370496 % 2048:Nat):Int)-1075+953).toNat
   rw[←habs] at hbs
   have hnz:vp (decide (b / 9223372036854775808=1),b % 4503599627370496+4503599627370496,((b / 4503599627370496 % 2048:Nat):Int)-1075)≠0:=by
    intro hc;rw[hc] at habs;have:=Nat.mul_pos (Nat.pos_of_ne_zero hn) (Nat.two_pow_pos (((b / 4503599627370496 % 2048:Nat):Int)-1075+953).toNat);rw[←habs] at this;exact absurd this (by decide)
   rw[kI hnz ⟨by omega,by omega⟩,ie hrep,habs,gY hn]
   have hr:rung (b % 4503599627370496+4503599627370496) (-953+(((((b / 4503599627370496 % 2048:Nat):Int)-1075+953).toNat:Nat):Int))=((b % 9223372036854775808:Nat):Int):=by
    unfold rung mf;rw[hbl,if_pos (by omega)];simp only[Nat.sub_self,Nat.pow_zero,Nat.mul_one];omega
   rw[hr]
   have hs:decide (vp (decide (b / 9223372036854775808=1),b % 4503599627370496+4503599627370496,((b / 4503599627370496 % 2048:Nat):Int)-1075)<0)=decide (9223372036854775808≤b):=by
    have hpp:=Nat.mul_pos (Nat.pos_of_ne_zero hn) (Nat.two_pow_pos (((b / 4503599627370496 % 2048:Nat):Int)-1075+953).toNat);apply decide_eq_decide.2;unfold vp sg;simp only;generalize(b % 4503599627370496+4503599627370496)*2^(((b / 4503599627370496 % 2048:Nat):Int)-1075+953).toNat=g at*;by_cases hd:9223372036854775808≤b
    ·rw[decide_eq_true (show b / 9223372036854775808=1 by omega),if_pos rfl];omega
    ·rw[decide_eq_false (show¬b / 9223372036854775808=1 by omega),if_neg Bool.false_ne_true];omega
   rw[hs];simp only[Bool.false_eq_true,if_false,Int.add_zero,Int.toNat_natCast];exact(gZ hb).symm
def f9 (x:ap) (d u:Nat):Prop:=FR d (ar x (-1))∧FR u (ar x 1)
theorem zP {e z:Int} {x:ap} {d u:Nat} (h:oM e z d u) (hx:bj e z x):f9 x d u:=by
 unfold f9;rw[mV hx (-1) (Or.inl rfl),mV hx 1 (Or.inr rfl)];exact h
theorem jg {x y:Nat} {p q:ap} (hx:x<18446744073709551616) (hy:y<18446744073709551616) (hxz:x≠9223372036854775808) (px:au x=some p) (py:au y=some q):
  ∃d u,f9 (sumN p.1 p.2.1 p.2.2 q.1 q.2.1 q.2.2) d u∧bF 89 #[fV x,fV y] d u:=by
 have np:=cD px;have nq:=cD py;have ms:=dx np.means nq.means;by_cases hyz:y=9223372036854775808
 ·have hq0:vp q=0:=by
   subst hyz;have:au 9223372036854775808=some (false,0,0):=rfl;rw[this] at py
   cases py;exact pB
  obtain⟨d,u,hE,hG⟩:=Ac (e:=-953) (a:=vp p) (M:=plM) (by omega) (by have:=mF;have:=mH;omega) np.lt np.rep;rw[hq0,Int.add_zero] at ms;rw[qt hx hxz px,hyz];exact⟨d,u,zP hE ms,hG⟩
 ·obtain⟨d,u,hE,hG⟩:=EC (e:=-953) (a:=vp p) (b:=vp q) (M:=plM) (by omega) (by have:=mF;have:=mH;omega) np.lt nq.lt np.rep nq.rep (Fr np.rep nq.rep np.big nq.big);rw[qt hx hxz px,qt hy hyz py];exact⟨d,u,zP hE ms,hG⟩
theorem GX (s:Bool) (n k:Nat):Toward.even.cut s n k≤n / 2^(min k (n.log2+2))+1:=by
 unfold Toward.cut;simp only[Nat.one_shiftLeft];have hb:∀b:Bool,b.toNat≤1:=by intro b;cases b<;>decide
 exact Nat.add_le_add_left (hb _) _
theorem wi (s:Bool) (n:Nat):Toward.even.cut s n 0=n:=by
 unfold Toward.cut;simp[Nat.mod_one]
theorem fH (s:Bool) {n:Nat} (e:Int) (h0:n≠0):∃R,double.nearest s n e=wd s R∧R≤9218868437227405312∧
  (-1021≤e+bl n→e+bl n≤1023→(R:Int)=rung n e+if nup n then 1 else 0)∧(e+bl n< -1021→R≤4503599627370497)∧(1023<e+bl n→9214364837600034816≤R):=by
 by_cases hm:-1021≤e+bl n∧e+bl n≤1023
 ·have hr:=eX s h0 hm.1 hm.2;have rb:=cJ e h0;refine⟨(rung n e+if nup n then 1 else 0).toNat,hr,?_,fun _ _=>?_,fun h=>by omega,fun h=>by omega⟩
  ·split<;>omega
  ·split<;>omega
 ·have hl:=kQ h0;have hlp:double.leastPlace=-1074:=by decide
  have hfb:double.fractionBits=52:=rfl;have hbi:double.binade=4503599627370496:=by decide
  have hin:double.infRung=9218868437227405312:=by decide
  have hsw:double.signWeight=9223372036854775808:=by decide
  have hw:∀R,double.word s R=wd s R:=by
   intro R;unfold Format.word wd;rw[hsw]
   cases s
   ·rfl
   ·rw[if_pos rfl,if_pos rfl,Nat.add_comm]
  unfold Format.nearest;rw[if_neg h0];simp only[hlp,hfb,hbi,hin];rw[hw];refine⟨_,rfl,Nat.min_le_right _ _,fun h1 h2=>absurd ⟨h1,h2⟩ hm,fun h=>?_,fun h=>?_⟩
  ·have hlast:max (e+(n.log2:Int)-((52:Nat):Int)) (-1074)=-1074:=by omega
   rw[hlast];refine Nat.le_trans (Nat.min_le_left _ _) ?_;rw[show((-1074:Int) - -1074).toNat=0 by omega,Nat.zero_mul,Nat.zero_add];have hb2:=(bt (Nat.pos_of_ne_zero h0)).2.1;by_cases he:-1074≤e
   ·rw[show(-1074-e).toNat=0 by omega,wi,Nat.shiftLeft_eq];have h1:n*2^(e - -1074).toNat<2^bl n*2^(e - -1074).toNat:=Nat.mul_lt_mul_of_pos_right hb2 (Nat.two_pow_pos _);rw[←Nat.pow_add] at h1;have h2:(2:Nat)^(bl n+(e - -1074).toNat)≤2^52:=cW (by omega);rw[p52] at h2;omega
   ·rw[show(e - -1074).toNat=0 by omega,Nat.shiftLeft_zero];refine Nat.le_trans (GX s n _) ?_;apply Nat.succ_le_succ;by_cases hk:(-1074-e).toNat≤n.log2+2
    ·rw[Nat.min_eq_left hk]
     have h1:n<2^((-1074-e).toNat)*2^52:=by
      rw[←Nat.pow_add];exact Nat.lt_of_lt_of_le hb2 (cW (by omega))
     have:=Nat.div_lt_of_lt_mul h1;rw[p52] at this;omega
    ·rw[Nat.min_eq_right (by omega)];have:n / 2^(n.log2+2)=0:=Nat.div_eq_of_lt (Nat.lt_of_lt_of_le hb2 (cW (by omega)));omega
  ·have hlast:max (e+(n.log2:Int)-((52:Nat):Int)) (-1074)=e+bl n-53:=by omega
   rw[hlast];refine Nat.le_min.2 ⟨?_,by omega⟩;obtain⟨T,hT⟩:∃T:Nat,e+(bl n:Int)-53 - -1074=(T:Int):=⟨(e+(bl n:Int)-53 - -1074).toNat,by omega⟩;rw[hT,Int.toNat_natCast];have hT2:2045≤T:=by omega
   have hk:4503599627370496≤Toward.even.cut s (n<<<(e-(e+(bl n:Int)-53)).toNat) (e+(bl n:Int)-53-e).toNat:=by
    have hm:=b9 (Nat.pos_of_ne_zero h0);unfold mf at hm;by_cases hb53:bl n≤53
    ·rw[if_pos hb53] at hm;rw[show(e+(bl n:Int)-53-e).toNat=0 by omega,wi,Nat.shiftLeft_eq,show(e-(e+(bl n:Int)-53)).toNat=53-bl n by omega];exact hm.1
    ·rw[if_neg hb53] at hm;rw[show(e-(e+(bl n:Int)-53)).toNat=0 by omega,Nat.shiftLeft_zero,show(e+(bl n:Int)-53-e).toNat=bl n-53 by omega];unfold Toward.cut;simp only[Nat.one_shiftLeft];rw[Nat.min_eq_left (by omega)];exact Nat.le_trans hm.1 (Nat.le_add_right _ _)
   omega
theorem kL (s:Bool) {R:Nat} (h0:0<R) (h:R<553942754166571008):FR (wd s R) (sgI s 553942754166571007):=by
 have hm:wd s R % 9223372036854775808=R:=by unfold wd;split<;>omega
 refine⟨kz (by omega),(by intro hc;rw[hc] at hm;omega),by omega,?_⟩;rw[gG _ (by omega),hm];have:aX (R:Int)=553942754166571007:=by unfold aX;rw[if_pos (by omega)]
 rw[this];unfold sgI wd
 cases s
 ·rw[if_neg Bool.false_ne_true,if_neg (by omega),if_neg Bool.false_ne_true]
 ·rw[if_pos rfl,if_pos (by omega),if_pos rfl]
theorem kM (s:Bool) {R:Nat} (h:8660422083433463808<R) (h2:R≤9218868437227405312):FR (wd s R) (sgI s 8660422083433463809):=by
 have hm:wd s R % 9223372036854775808=R:=by unfold wd;split<;>omega
 refine⟨kz (by omega),(by intro hc;rw[hc] at hm;omega),by omega,?_⟩;rw[gG _ (by omega),hm];have:aX (R:Int)=8660422083433463809:=by unfold aX;rw[if_neg (by omega),if_pos (by omega)]
 rw[this];unfold sgI wd
 cases s
 ·rw[if_neg Bool.false_ne_true,if_neg (by omega),if_neg Bool.false_ne_true]
 ·rw[if_pos rfl,if_pos (by omega),if_pos rfl]
theorem tI (s:Bool) {n:Nat} {e:Int} (way:Int) (h0:n≠0) (h:e+bl n≤-901):ar (s,n,e) way=sgI s 553942754166571007:=by
 have rb:=cJ e h0;have eb:=cO s (n:=n) e way;unfold ar;rw[if_neg h0];simp only
 congr 1
 unfold aX;rw[if_pos (by omega)]
theorem tL (s:Bool) {n:Nat} {e:Int} (way:Int) (h0:n≠0) (h:902≤e+bl n):ar (s,n,e) way=sgI s 8660422083433463809:=by
 have rb:=cJ e h0;have eb:=cO s (n:=n) e way;unfold ar;rw[if_neg h0];simp only
 congr 1
 unfold aX;rw[if_neg (by omega),if_pos (by omega)]
theorem Dn {c N k:Nat} (hc:4503599627370496≤c) (h1:c*2^k<N) (h2:N<(c+1)*2^k):bl N=bl c+k∧mf N=mf c∧aP N=true:=by
 have hp:=Nat.two_pow_pos k;have hc0:0<c:=by omega
 obtain⟨b1,b2,b3⟩:=bt hc0
 have hbc:53≤bl c:=by
  have:=pA (n:=c) (k:=52) (by rw[p52];exact hc);omega
 have hbN:bl N=bl c+k:=by
  refine rU ?_ ?_ (by omega)
  ·rw[show bl c+k-1=(bl c-1)+k by omega,Nat.pow_add];exact Nat.le_of_lt (Nat.lt_of_le_of_lt (Nat.mul_le_mul_right _ b1) h1)
  ·rw[Nat.pow_add];exact Nat.lt_of_lt_of_le h2 (Nat.mul_le_mul_right _ (by omega))
 have hk0:k≠0:=by
  rintro rfl;rw[Nat.pow_zero] at h1 h2;omega
 have hdiv:N / 2^k=c:=by
  apply Nat.div_eq_of_lt_le
  ·exact Nat.le_of_lt h1
  ·exact h2
 refine⟨hbN,?_,?_⟩
 ·unfold mf;rw[hbN,if_neg (by omega),show bl c+k-53=k+(bl c-53) by omega,Nat.pow_add,←Nat.div_div_eq_div_mul,hdiv];by_cases h53:bl c≤53
  ·rw[if_pos h53,show bl c-53=0 by omega,show 53-bl c=0 by omega,Nat.pow_zero,Nat.div_one,Nat.mul_one]
  ·rw[if_neg h53]
 ·unfold aP;rw[decide_eq_true_eq,hbN];refine⟨by omega,?_⟩;intro hz;have hd:2^k∣N:=Nat.dvd_trans (Nat.pow_dvd_pow 2 (by omega)) (Nat.dvd_of_mod_eq_zero hz);obtain⟨m,rfl⟩:=hd;rw[Nat.mul_comm c] at h1;rw[Nat.mul_comm (c+1)] at h2;have a1:=Nat.lt_of_mul_lt_mul_left h1;have a2:=Nat.lt_of_mul_lt_mul_left h2;omega
theorem sf (s:Bool) {c N k:Nat} (hc:4503599627370496≤c) (h1:c*2^k<N) (h2:N<(c+1)*2^k) (e way:Int):endR s N e way=rung c (e+k)+if offS s way then 1 else 0:=by
 obtain⟨a1,a2,a3⟩:=Dn hc h1 h2;unfold endR rung;rw[a1,a2,a3,Bool.and_true]
 congr 3
 omega
theorem qx {e z:Int} {s:Bool} {m:Nat} {p:Int} (c0:Int) (h1:c0≤p) (h2:c0≤e) (h:sg s (m*2^(p-c0).toNat)=z*((2^(e-c0).toNat:Nat):Int)):dE e z s m p:=by
 intro c hc1 hc2
 have hd:sg s (m*2^(p-min c c0).toNat)=z*((2^(e-min c c0).toNat:Nat):Int):=by
  have this:sg s (m*2^(p-c0).toNat)*((2^(c0-min c c0).toNat:Nat):Int)=z*((2^(e-c0).toNat:Nat):Int)*((2^(c0-min c c0).toNat:Nat):Int):=by rw[h]
  rw[bG,Nat.mul_assoc,←Nat.pow_add,Int.mul_assoc,←Int.natCast_mul,←Nat.pow_add] at this;rwa [show(p-c0).toNat+(c0-min c c0).toNat=(p-min c c0).toNat by omega,show(e-c0).toNat+(c0-min c c0).toNat=(e-min c c0).toNat by omega] at this
 have hp:((2^(c-min c c0).toNat:Nat):Int)≠0:=by
  have:=Nat.two_pow_pos (c-min c c0).toNat
  omega
 apply Int.eq_of_mul_eq_mul_right hp;rw[bG,Nat.mul_assoc,←Nat.pow_add,Int.mul_assoc,←Int.natCast_mul,←Nat.pow_add];rwa [show(p-c).toNat+(c-min c c0).toNat=(p-min c c0).toNat by omega,show(e-c).toNat+(c-min c c0).toNat=(e-min c c0).toNat by omega]
theorem tE (s t:Bool) (m n:Nat):sg (s^^t) (m*n)=sg s m*sg t n:=by
 unfold sg
 cases s<;>cases t<;>simp[Int.natCast_mul,Int.neg_mul,Int.mul_neg]
theorem Ia (a b c d:Int):a*b*(c*d)=a*c*(b*d):=by
 rw[Int.mul_assoc,Int.mul_assoc,Int.mul_left_comm b]
theorem oK {e f a b:Int} {s t:Bool} {m n:Nat} {p q:Int} (hx:dE e a s m p) (hy:dE f b t n q):dE (e+f) (a*b) (s^^t) (m*n) (p+q):=by
 have ha:=hx (min p e) (by omega) (by omega);have hb:=hy (min q f) (by omega) (by omega);refine qx (min p e+min q f) (by omega) (by omega) ?_;rw[show(p+q-(min p e+min q f)).toNat=(p-min p e).toNat+(q-min q f).toNat by omega,show(e+f-(min p e+min q f)).toNat=(e-min p e).toNat+(f-min q f).toNat by omega];rw[Nat.pow_add,Nat.pow_add,Int.natCast_mul,Ia,←ha,←hb,←tE]
 congr 1
 rw[Nat.mul_assoc,Nat.mul_assoc,Nat.mul_left_comm n]
theorem ou {e z:Int} {s:Bool} {m:Nat} {p:Int} (h:dE e z s m p) (k:Nat):dE (e-k) (z*((2^k:Nat):Int)) s m p:=by
 refine qx (min p (e-k)) (by omega) (by omega) ?_;have:=h (min p (e-k)) (by omega) (by omega);rw[this,Int.mul_assoc,←Int.natCast_mul,←Nat.pow_add]
 congr 3
 omega
end
section
def sumR:Nat→(Nat→Rat)→Rat
 |0,_=>0
 |n+1,f=>sumR n f+f n
theorem cX {n:Nat} {f g:Nat→Rat} (h:∀j,j<n→f j=g j):sumR n f=sumR n g:=by
 induction n with
 |zero=>rfl
 |succ n ih=>show sumR n f+f n=sumR n g+g n;rw[ih (fun j hj=>h j (by omega)),h n (by omega)]
theorem wV {n:Nat} (f g:Nat→Rat) (t:Rat):sumR n (fun j=>f j-t*g j)=sumR n f-t*sumR n g:=by
 induction n with
 |zero=>show(0:Rat)=0-t*0;grind
 |succ n ih=>show sumR n (fun j=>f j-t*g j)+(f n-t*g n)=(sumR n f+f n)-t*(sumR n g+g n);rw[ih];grind
theorem gJ {n:Nat} (f:Nat→Rat):sumR (n+1) f=f 0+sumR n (fun j=>f (j+1)):=by
 induction n with
 |zero=>show(0:Rat)+f 0=f 0+0;grind
 |succ n ih=>show sumR (n+1) f+f (n+1)=f 0+(sumR n (fun j=>f (j+1))+f (n+1));rw[ih];grind
def detR:Nat→(Nat→Nat→Rat)→Rat
 |0,_=>1
 |n+1,m=>sumR (n+1) (fun j=>(if j % 2=1 then -1 else 1)*(m 0 j*detR n (fun i k=>m (i+1) (if k<j then k else k+1))))
def sW (a b c d:Rat):Rat:=a*d-b*c
def jE (a b c d e f g h i:Rat):Rat:=a*(e*i-f*h)-b*(d*i-f*g)+c*(d*h-e*g)
def xD (a b c d e f g h i j k l m n o p:Rat):Rat:=a*jE f g h j k l n o p-b*jE e g h i k l m o p+c*jE e f h i j l m n p-d*jE e f g i j k m n o
theorem AZ (m:Nat→Nat→Rat):detR 1 m=m 0 0:=by
 simp[detR,sumR];grind
theorem rd (m:Nat→Nat→Rat):detR 2 m=sW (m 0 0) (m 0 1) (m 1 0) (m 1 1):=by
 simp[detR,sumR,sW];grind
theorem ss (m:Nat→Nat→Rat):detR 3 m=jE (m 0 0) (m 0 1) (m 0 2) (m 1 0) (m 1 1) (m 1 2) (m 2 0) (m 2 1) (m 2 2):=by
 simp[detR,sumR,jE];grind
theorem uX (m:Nat→Nat→Rat):detR 4 m=xD (m 0 0) (m 0 1) (m 0 2) (m 0 3) (m 1 0) (m 1 1) (m 1 2) (m 1 3) (m 2 0) (m 2 1) (m 2 2) (m 2 3) (m 3 0) (m 3 1) (m 3 2) (m 3 3):=by
 simp[detR,sumR,xD,jE];grind
theorem nL:∀(n:Nat) {m m':Nat→Nat→Rat},(∀i j,i<n→j<n→m i j=m' i j)→detR n m=detR n m'
 |0,_,_,_=>rfl
 |n+1,m,m',h=>by
  unfold detR;apply cX;intro j hj;rw[h 0 j (by omega) hj,nL n (m:=fun i k=>m (i+1) (if k<j then k else k+1)) (m':=fun i k=>m' (i+1) (if k<j then k else k+1)) (fun i k hi hk=>h _ _ (by omega) (by split<;>omega))]
theorem le4 {n:Nat} (h:n≤4):n=0∨n=1∨n=2∨n=3∨n=4:=by omega
theorem DO {n:Nat} (hn:n+1≤4) (m:Nat→Nat→Rat) (t:Nat→Rat) (h:∀i,i<n→m (i+1) 0=t i*m 0 0):detR (n+1) m=m 0 0*detR n (fun i j=>m (i+1) (j+1)-t i*m 0 (j+1)):=by
 rcases le4 (n:=n) (by omega) with rfl|rfl|rfl|rfl|rfl
 ·rw[AZ];show m 0 0=m 0 0*1;grind
 ·have h0:=h 0 (by omega);rw[rd,AZ];unfold sW;simp only[Nat.zero_add] at*;rw[h0];grind
 ·have h0:=h 0 (by omega);have h1:=h 1 (by omega);rw[ss,rd];unfold jE sW;simp only[Nat.zero_add,Nat.reduceAdd] at*;rw[h0,h1];grind
 ·have h0:=h 0 (by omega);have h1:=h 1 (by omega);have h2:=h 2 (by omega);rw[uX,ss];unfold xD jE;simp only[Nat.zero_add,Nat.reduceAdd] at*;rw[h0,h1,h2];grind
 ·omega
def swapR {α:Type} (m:Nat→α) (k a:Nat):Nat→α:=fun i=>if i=k then m a else if i=a then m k else m i
theorem D3 {n a:Nat} (hn:n≤4) (ha:a<n) (h0:a≠0) (m:Nat→Nat→Rat):detR n (swapR m 0 a)=-detR n m:=by
 rcases le4 hn with rfl|rfl|rfl|rfl|rfl
 ·omega
 ·omega
 ·obtain rfl:a=1:=by omega
  rw[rd,rd];simp only[swapR,sW];simp;grind
 ·rw[ss,ss];rcases(show a=1∨a=2 by omega) with rfl|rfl<;>(simp only[swapR,jE];simp;grind)
 ·rw[uX,uX];rcases(show a=1∨a=2∨a=3 by omega) with rfl|rfl|rfl<;>(simp only[swapR,xD,jE];simp;grind)
def eh (m:Nat→Nat→Rat) (v:Nat→Rat) (c:Nat):Nat→Nat→Rat:=fun i j=>if j=c then v i else m i j
theorem ru {n:Nat} (hn:n≤4) (m:Nat→Nat→Rat) (v:Nat→Rat) (i:Nat) (hi:i<n):sumR n (fun j=>m i j*detR n (eh m v j))=v i*detR n m:=by
 rcases le4 hn with rfl|rfl|rfl|rfl|rfl
 ·omega
 ·obtain rfl:i=0:=by omega
  simp only[sumR,AZ,eh];simp;grind
 ·simp only[sumR,rd,eh,sW];rcases(show i=0∨i=1 by omega) with rfl|rfl<;>(simp;grind)
 ·simp only[sumR,ss,eh,jE];rcases(show i=0∨i=1∨i=2 by omega) with rfl|rfl|rfl<;>(simp;grind)
 ·simp only[sumR,uX,eh,xD,jE];rcases(show i=0∨i=1∨i=2∨i=3 by omega) with rfl|rfl|rfl|rfl<;>(simp;grind)
end
end Go.Proofs.YtonhpkigoplmaaaGreatDoor
