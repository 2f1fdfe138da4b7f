import Derived.Test.YtonhpkigoplmaaaGreatDoorZ25
import Derived.Test.YtonhpkigoplmaaaGreatDoorZ23
import Derived.Deep.LoopGhost
import Derived.WalkMore
set_option maxRecDepth 100000
set_option maxHeartbeats 40000000
namespace Go.Proofs.YtonhpkigoplmaaaGreatDoor
section
open Go.RowKit Go.Extern Ieee
theorem qN {d:Nat} (h1:553942754166571008≤d) (h2:d≤8660422083433463808):double.read d= .number false (d % 4503599627370496+4503599627370496) (((d / 4503599627370496:Nat):Int)-1075):=by
 have hsw:double.signWeight=9223372036854775808:=rfl;have hbn:double.binade=4503599627370496:=rfl;have hir:double.infRung=9218868437227405312:=rfl;have hlp:double.leastPlace=-1074:=rfl;have hm:d % 9223372036854775808=d:=by omega
 have hd:(d / 9223372036854775808 % 2==1)=false:=by
  rw[show d / 9223372036854775808 % 2=0 by omega];rfl
 unfold Format.read;simp only[hsw,hbn,hir,hlp,hm,hd];rw[if_neg (by omega),if_pos (by omega)]
 congr 1
 ·omega
 ·omega
theorem sS {x y:Nat} (hx1:553942754166571008≤x) (hx2:x≤8660422083433463808) (hy1:553942754166571008≤y) (hy2:y≤8660422083433463808):
  double.div x y=some (dvW x y)∧NN (dvW x y)∧(y≤x+4503599627370496→4602678819172646912≤dvW x y)∧(x+4503599627370496≤y→dvW x y≤4602678819172646912):=by
 have rx:=qN hx1 hx2;have ry:=qN hy1 hy2;have x1:4503599627370496≤x % 4503599627370496+4503599627370496:=by omega
 have x2:x % 4503599627370496+4503599627370496<9007199254740992:=by omega
 have y1:4503599627370496≤y % 4503599627370496+4503599627370496:=by omega
 have y2:y % 4503599627370496+4503599627370496<9007199254740992:=by omega
 have hdv:=oN rx ry x1 x2 y1 y2;have hD:dvW x y=double.nearest (false^^false) (q1 (x % 4503599627370496+4503599627370496) (y % 4503599627370496+4503599627370496)) (((x / 4503599627370496:Nat):Int)-1075-(((y / 4503599627370496:Nat):Int)-1075)-55):=by unfold dvW;rw[hdv,Option.getD_some]
 obtain⟨b1,b2⟩:=u9 x1 x2 y1 y2;obtain⟨c1,c2⟩:=lN x1 x2 y1 y2;have hq:q1 (x % 4503599627370496+4503599627370496) (y % 4503599627370496+4503599627370496)=2*((x % 4503599627370496+4503599627370496)*2^54 /(y % 4503599627370496+4503599627370496))+if(x % 4503599627370496+4503599627370496)*2^54 %(y % 4503599627370496+4503599627370496)=0 then 0 else 1:=rfl
 have p54:(2:Nat)^54=18014398509481984:=by decide
 have p55:(2:Nat)^55=36028797018963968:=by decide
 have big:x % 4503599627370496≥y % 4503599627370496→bl (q1 (x % 4503599627370496+4503599627370496) (y % 4503599627370496+4503599627370496))=56:=by
  intro h
  have:18014398509481984≤(x % 4503599627370496+4503599627370496)*2^54 /(y % 4503599627370496+4503599627370496):=by
   rw[Nat.le_div_iff_mul_le (by omega),p54,Nat.mul_comm];exact Nat.mul_le_mul_right _ (by omega)
  have:55<bl (q1 (x % 4503599627370496+4503599627370496) (y % 4503599627370496+4503599627370496)):=pA (by rw[p55,hq];omega);omega
 have small:x % 4503599627370496<y % 4503599627370496→bl (q1 (x % 4503599627370496+4503599627370496) (y % 4503599627370496+4503599627370496))=55:=by
  intro h
  have:(x % 4503599627370496+4503599627370496)*2^54 /(y % 4503599627370496+4503599627370496)<18014398509481984:=by
   rw[Nat.div_lt_iff_lt_mul (by omega),p54,Nat.mul_comm];exact Nat.mul_lt_mul_of_pos_left (by omega) (by omega)
  have:bl (q1 (x % 4503599627370496+4503599627370496) (y % 4503599627370496+4503599627370496))≤55:=bQ (by rw[p55,hq];split<;>omega);omega
 have same:x % 4503599627370496=y % 4503599627370496→mf (q1 (x % 4503599627370496+4503599627370496) (y % 4503599627370496+4503599627370496))=4503599627370496∧nup (q1 (x % 4503599627370496+4503599627370496) (y % 4503599627370496+4503599627370496))=false:=by
  intro h
  have e:q1 (x % 4503599627370496+4503599627370496) (y % 4503599627370496+4503599627370496)=36028797018963968:=by
   rw[hq,h,Nat.mul_div_cancel_left _ (by omega),Nat.mul_mod_right,if_pos rfl,p54]
  rw[e];decide
 generalize hQ:q1 (x % 4503599627370496+4503599627370496) (y % 4503599627370496+4503599627370496)=Q at*
 have hQ0:Q≠0:=by
  intro hc;rw[hc] at b1;have:bl 0=0:=rfl;omega
 obtain⟨m1,m2⟩:=b9 (Nat.pos_of_ne_zero hQ0);obtain⟨R,r1,r2,r3,r4,r5⟩:=fH (false^^false) (((x / 4503599627370496:Nat):Int)-1075-(((y / 4503599627370496:Nat):Int)-1075)-55) hQ0;have hR:dvW x y=R:=by rw[hD,r1];unfold wd;simp
 have hnup:(0:Int)≤(if nup Q then 1 else 0)∧(if nup Q then(1:Int) else 0)≤1:=by split<;>omega
 rw[hR];refine⟨by rw[hdv,←hD,hR],⟨r2⟩,fun h=>?_,fun h=>?_⟩
 ·by_cases hE:1023<((x / 4503599627370496:Nat):Int)-1075-(((y / 4503599627370496:Nat):Int)-1075)-55+bl Q
  ·have:=r5 hE;omega
  ·have hge:0≤((x / 4503599627370496:Nat):Int)-1075-(((y / 4503599627370496:Nat):Int)-1075)-55+bl Q:=by
    by_cases hm:x % 4503599627370496≥y % 4503599627370496
    ·have:=big hm;omega
    ·have:=small (by omega);omega
   have:=r3 (by omega) (by omega);unfold rung at this;omega
 ·by_cases hE:((x / 4503599627370496:Nat):Int)-1075-(((y / 4503599627370496:Nat):Int)-1075)-55+bl Q< -1021
  ·have:=r4 hE;omega
  ·by_cases hm:x % 4503599627370496=y % 4503599627370496
   ·have hb:=big (by omega);obtain⟨s1,s2⟩:=same hm;have:=r3 (by omega) (by omega);rw[s2] at this;simp only[Bool.false_eq_true,if_false] at this;unfold rung at this;rw[s1,hb] at this;omega
   ·have hlt:((x / 4503599627370496:Nat):Int)-1075-(((y / 4503599627370496:Nat):Int)-1075)-55+bl Q≤-1:=by
     by_cases hm2:x % 4503599627370496≥y % 4503599627370496
     ·have:=big hm2;omega
     ·have:=small (by omega);omega
    have:=r3 (by omega) (by omega);unfold rung at this;omega
theorem yI {x:Nat} (hx1:553942754166571008≤x) (hx2:x≤8660422083433463808):double.div x 0=some 9218868437227405312∧dvW x 0=9218868437227405312:=by
 have rx:=qN hx1 hx2;have r0:double.read 0= .number false 0 (-1074):=rfl
 have h:double.div x 0=some 9218868437227405312:=by
  unfold Format.div;rw[rx,r0];simp only[Datum.quotient];rw[if_pos trivial,if_neg (by omega)]
  rfl
 exact⟨h,by unfold dvW;rw[h];rfl⟩
theorem pD {d:Nat} (h:PlA d):aF d=pq (d:Int):=by
 have hp:plP (d:Int)=true:=by unfold plP;unfold PlA at h;exact decide_eq_true (by omega)
 have:=ml hp;rwa [show wdP (d:Int)=d by unfold wdP wd;rw[decide_eq_false (by omega)];simp] at this
theorem GC (r:Int):rvQ (r+4503599627370496)=2*rvQ r:=by
 obtain⟨m,e,h1,h2,h3⟩:=qB r;rw[jT h1 h2 h3,jT (r:=r+4503599627370496) (m:=m) (e:=e+1) (by omega) h2 h3,bT,oF];grind
theorem vP {x y:Nat} (hx:PlA x) (hx0:x≠0) (hy:PlA y) (hy0:y≠0):(aF y≤2*aF x→y≤x+4503599627370496)∧(2*aF x≤aF y→x+4503599627370496≤y):=by
 rw[pD hx,pD hy];have e1:pq (x:Int)=rvQ (x:Int):=by unfold pq;rw[if_neg (by omega),if_neg (by omega)]
 have e2:pq (y:Int)=rvQ (y:Int):=by unfold pq;rw[if_neg (by omega),if_neg (by omega)]
 have e3:2*rvQ (x:Int)=pq ((x:Int)+4503599627370496):=by unfold pq;rw[if_neg (by omega),if_neg (by omega),GC]
 rw[e1,e3,e2,←show pq (y:Int)=rvQ (y:Int) from e2];constructor
 ·intro h;apply Decidable.byContradiction;intro hc;have:=zR (p:=(x:Int)+4503599627370496) (q:=(y:Int)) (by omega);grind
 ·intro h;apply Decidable.byContradiction;intro hc;have:=zR (p:=(y:Int)) (q:=(x:Int)+4503599627370496) (by omega);grind
theorem kY {x y:Nat} (hx:PlA x) (hy:PlA y):aF x≤aF y↔x≤y:=by
 rw[pD hx,pD hy];constructor
 ·intro h;apply Decidable.byContradiction;intro hc;have:=zR (p:=(y:Int)) (q:=(x:Int)) (by omega);grind
 ·intro h;exact pE (by omega)
theorem tk {x y:Nat} (hx:PlA x) (hy:PlA y):PlA (min x y):=by unfold PlA at*;omega
theorem sL {x y:Nat} (hx:PlA x) (hy:PlA y):PlA (max x y):=by unfold PlA at*;omega
theorem Ag {a:Nat×Nat} (i:ivW a):PlA (lsW a)∧(¬cn a 0→lsW a≠0∧(aF (lsW a)=ab (aF a.1)∨aF (lsW a)=ab (aF a.2))∧aF (lsW a)≤ab (aF a.1)∧aF (lsW a)≤ab (aF a.2)):=by
 obtain⟨p1,v1⟩:=dT i.lt1 i.p1;obtain⟨p2,v2⟩:=dT i.lt2 i.p2;have hm:=(p1.nn.fmin p2.nn).1;unfold lsW;by_cases h:holdsT (plT a.1) (plT a.2)=true
 ·rw[if_pos h];exact⟨.inl rfl,fun hc=>absurd ((j9 a).1 h) hc⟩
 ·rw[if_neg h,hm];refine⟨tk p1 p2,fun hn=>?_⟩;have hs:=oO i hn;have hle:=Iv.vle i
  have n1:absW a.1≠0:=by
   intro hc;rw[hc] at v1;have z:aF 0=0:=dH rfl;have:=Cr (x:=aF a.1) (by grind);grind
  have n2:absW a.2≠0:=by
   intro hc;rw[hc] at v2;have z:aF 0=0:=dH rfl;have:=Cr (x:=aF a.2) (by grind);grind
  refine⟨by omega,?_,?_,?_⟩
  ·rcases(show min (absW a.1) (absW a.2)=absW a.1∨min (absW a.1) (absW a.2)=absW a.2 by omega) with h|h
   ·left;rw[h,v1]
   ·right;rw[h,v2]
  ·rw[←v1];exact(kY (tk p1 p2) p1).2 (by omega)
  ·rw[←v2];exact(kY (tk p1 p2) p2).2 (by omega)
theorem r7 {a:Nat×Nat} (i:ivW a):PlA (gtW a)∧(aF (gtW a)=ab (aF a.1)∨aF (gtW a)=ab (aF a.2))∧ab (aF a.1)≤aF (gtW a)∧ab (aF a.2)≤aF (gtW a):=by
 obtain⟨p1,v1⟩:=dT i.lt1 i.p1;obtain⟨p2,v2⟩:=dT i.lt2 i.p2;have hm:=(p1.nn.fmax p2.nn).1;unfold gtW;rw[hm];refine⟨sL p1 p2,?_,?_,?_⟩
 ·rcases(show max (absW a.1) (absW a.2)=absW a.1∨max (absW a.1) (absW a.2)=absW a.2 by omega) with h|h
  ·left;rw[h,v1]
  ·right;rw[h,v2]
 ·rw[←v1];exact(kY p1 (sL p1 p2)).2 (by omega)
 ·rw[←v2];exact(kY p2 (sL p1 p2)).2 (by omega)
theorem E9 {x y:Nat} (hx:PlA x) (hx0:x≠0) (hy:PlA y):double.div x y=some (dvW x y)∧NN (dvW x y):=by
 have hx':553942754166571008≤x∧x≤8660422083433463808:=by unfold PlA at hx;omega
 by_cases hy0:y=0
 ·subst hy0;obtain⟨h1,h2⟩:=yI hx'.1 hx'.2;rw[h2];exact⟨h1,⟨by omega⟩⟩
 ·have hy':553942754166571008≤y∧y≤8660422083433463808:=by unfold PlA at hy;omega
  have:=sS hx'.1 hx'.2 hy'.1 hy'.2;exact⟨this.1,this.2.1⟩
theorem vv {row:Nat→Nat×Nat} {least:Nat} (hl:PlA least) (hl0:least≠0):∀(f j sh:Nat),NN sh→4602678819172646912≤sh→(∀x,j≤x→x<j+f→ivW (row x)∧aF (gtW (row x))≤2*aF least)→∃s,shJ row least 0 f j sh=some s∧NN s∧4602678819172646912≤s
 |0,j,sh,h1,h2,_=>⟨sh,rfl,h1,h2⟩
 |f+1,j,sh,h1,h2,h=>by
  obtain⟨iv,hg⟩:=h j (by omega) (by omega);obtain⟨g1,_⟩:=r7 iv
  have hd:NN (dvW least (gtW (row j)))∧4602678819172646912≤dvW least (gtW (row j)):=by
   have hx':553942754166571008≤least∧least≤8660422083433463808:=by unfold PlA at hl;omega
   by_cases hy0:gtW (row j)=0
   ·rw[hy0,(yI hx'.1 hx'.2).2];exact⟨⟨by omega⟩,by omega⟩
   ·have hy':553942754166571008≤gtW (row j)∧gtW (row j)≤8660422083433463808:=by unfold PlA at g1;omega
    obtain⟨_,k1,k2,_⟩:=sS hx'.1 hx'.2 hy'.1 hy'.2;exact⟨k1,k2 ((vP hl hl0 g1 hy0).1 hg)⟩
  obtain⟨m1,m2⟩:=h1.fmin hd.1;unfold shJ;have k0:kw 0=0:=rfl;rw[if_neg (by rw[m2.kw,k0,m1];omega)];exact vv hl hl0 f (j+1) _ m2 (by rw[m1];omega) (fun x a b=>h x (by omega) (by omega))
theorem yT {row:Nat→Nat×Nat} {least best:Nat} (hl:PlA least) (hl0:least≠0) (hb:NN best) (hb2:4602678819172646912≤best) {i:Nat} (hi:aF (gtW (row i))≠0∧2*aF least≤aF (gtW (row i))):∀(f j sh:Nat),NN sh→(∀x,j≤x→x<j+f→ivW (row x))→j≤i→i<j+f→shJ row least best f j sh=none
 |0,j,sh,_,_,_,_=>by omega
 |f+1,j,sh,h1,h,hij,hif=>by
  have iv:=h j (by omega) (by omega);obtain⟨g1,_⟩:=r7 iv;have hd:=(E9 hl hl0 g1).2;obtain⟨m1,m2⟩:=h1.fmin hd;unfold shJ;by_cases hc:kw (fmin sh (dvW least (gtW (row j))))≤kw best
  ·rw[if_pos hc]
  ·rw[if_neg hc]
   have hne:j≠i:=by
    rintro rfl;apply hc;rw[m2.kw,hb.kw,m1];have hx':553942754166571008≤least∧least≤8660422083433463808:=by unfold PlA at hl;omega
    have hy0:gtW (row j)≠0:=fun hz=>hi.1 (by rw[hz];exact dH rfl)
    have hy':553942754166571008≤gtW (row j)∧gtW (row j)≤8660422083433463808:=by unfold PlA at g1;omega
    obtain⟨_,_,_,k3⟩:=sS hx'.1 hx'.2 hy'.1 hy'.2;have:=k3 ((vP hl hl0 g1 hy0).2 hi.2);omega
   exact yT hl hl0 hb hb2 hi f (j+1) _ m2 (fun x a b=>h x (by omega) (by omega)) (by omega) (by omega)
theorem wY {M:Nat→Nat→Nat×Nat} {n k best:Nat} {a:Option Nat}:∀(f i:Nat),(∀y,i≤y→y<i+f→lsW (M y k)=0∨shJ (M y) (lsW (M y k)) best (n-k) k 4607182418800017408=none)→pvI M n k f i best a=a
 |0,_,_=>rfl
 |f+1,i,h=>by
  unfold pvI;have r:=wY (M:=M) (n:=n) (k:=k) (best:=best) (a:=a) f (i+1) (fun y a b=>h y (by omega) (by omega));by_cases h0:lsW (M i k)=0
  ·rw[if_pos h0];exact r
  ·rw[if_neg h0,(h i (by omega) (by omega)).resolve_left h0];exact r
def loW (a:Nat×Nat):Rat:=aF a.1
def hiW (a:Nat×Nat):Rat:=aF a.2
theorem kN {a:Nat×Nat} {i:Nat} (h:i=a.1∨i=a.2):bx loW hiW a (aF i):=by
 rcases h with rfl|rfl
 ·exact .inl rfl
 ·exact .inr rfl
theorem uz {f:ap→ap→ap} {a b:Nat×Nat} {g:Rat→Rat→Rat} (hb:∀i j,(i=a.1∨i=a.2)→(j=b.1∨j=b.2)→BR (f (plT i) (plT j)) (g (aF i) (aF j))) {B:Rat} (hB:∀x y,bx loW hiW a x→bx loW hiW b y→bd B (g x y)) (hG:B≤pw 899):
  ∃c,pz f a b=some c∧ivW c∧∀e,bx loW hiW c e→∃x y,bx loW hiW a x∧bx loW hiW b y∧Rnd (pw (-900)) e (g x y):=by
 obtain⟨c,h1,h2,⟨i,j,hi,hj,h3⟩,⟨k,l,hk,hl,h4⟩⟩:=(gC (f:=f) (a:=a) (b:=b) (g:=fun i j=>g (aF i) (aF j)) hb).2 B (fun i j hi hj=>hB _ _ (kN hi) (kN hj)) hG;refine⟨c,h1,h2,fun e he=>?_⟩;rcases he with rfl|rfl
 ·exact⟨_,_,kN hi,kN hj,h3⟩
 ·exact⟨_,_,kN hk,kN hl,h4⟩
theorem near:ku loW hiW (pw (-900)) (pw 899) muX suX quX pvX ivW where
 mu:=fun a b B _ _ hB hG=>uz (f:=aT) (g:=fun x y=>x*y) (fun i j _ _=>xf i j) hB hG
 su:=fun a b B ia ib hB hG=>by
  obtain⟨q1,r1⟩:=(mq (rB a.1 b.2)).2 (cE (hB _ _ (.inl rfl) (.inr rfl)) hG);obtain⟨q2,r2⟩:=(nj (rB a.2 b.1)).2 (cE (hB _ _ (.inr rfl) (.inl rfl)) hG);have hc:suX a b=some (wdP (pbP (ar (sumT (plT a.1) (bC (plT b.2))) (-1))),wdP (paP (ar (sumT (plT a.2) (bC (plT b.1))) 1))):=by unfold suX eS;rw[if_pos ⟨q1,q2⟩]
  obtain⟨iv,v1,v2,_,_⟩:=j7 hc (u6 ia ib);refine⟨_,hc,iv,fun e he=>?_⟩;rcases he with rfl|rfl
  ·exact⟨_,_,.inl rfl,.inr rfl,by show Rnd _ (aF _) _;rw[v1];exact r1⟩
  ·exact⟨_,_,.inr rfl,.inl rfl,by show Rnd _ (aF _) _;rw[v2];exact r2⟩
 qo:=fun a b B ia ib h0 hB hG=>uz (f:=quoN) (g:=fun x y=>x / y) (mv ia ib h0) hB hG
 pv:=fun M n k hk oks h=>by
  obtain⟨L,hL,hs,ht⟩:=h.here;have ikk:=oks k k ae hk ae hk
  have out:¬cn (M k k) 0:=by
   rintro⟨m1,m2⟩;rcases hs with hs|hs
   ·have:=hs _ (.inl rfl);unfold loW at this;grind
   ·have:=hs _ (.inr rfl);unfold hiW at this;grind
  obtain⟨p1,p2⟩:=Ag ikk;obtain⟨l0,l1,_,_⟩:=p2 out
  have hLv:L≤aF (lsW (M k k)):=by
   have key:∀x,bx loW hiW (M k k) x→L≤ab x:=by
    intro x hx;rcases hs with hs|hs
    ·have:=hs x hx;rcases bw x with⟨_,e⟩|⟨_,e⟩<;>grind
    ·have:=hs x hx;rcases bw x with⟨_,e⟩|⟨_,e⟩<;>grind
   rcases l1 with e|e
   ·rw[e];exact key _ (.inl rfl)
   ·rw[e];exact key _ (.inr rfl)
  obtain⟨s,g1,g2,g3⟩:=vv (row:=M k) p1 l0 (n-k) k 4607182418800017408 ⟨by decide⟩ (by decide) (fun x a b=>by
   have ix:=oks k x ae hk a (by omega);refine⟨ix,?_⟩;obtain⟨_,e,_,_⟩:=r7 ix;rcases e with e|e
   ·have:=jV (ht x _ a (by omega) (.inl rfl));rw[e];unfold loW at this;grind
   ·have:=jV (ht x _ a (by omega) (.inr rfl));rw[e];unfold hiW at this;grind)
  obtain⟨f,hf⟩:∃f,n-k=f+1:=⟨n-k-1,by omega⟩;unfold pvX;rw[hf];unfold pvI;rw[if_neg l0,g1];refine wY _ _ (fun i a b=>?_);have ii:=oks i i (by omega) (by omega) (by omega) (by omega);have ik:=oks i k (by omega) (by omega) ae hk;obtain⟨Li,hLi,h1,h2⟩:=h.there i (by omega) (by omega);by_cases hz:lsW (M i k)=0
  ·exact .inl hz
  ·right;obtain⟨q1,q2⟩:=Ag ik
   have outi:¬cn (M i k) 0:=by
    intro hm;apply hz;unfold lsW;rw[if_pos ((j9 _).2 hm)]
   obtain⟨_,e,_,_⟩:=q2 outi
   have hle:aF (lsW (M i k))≤Li:=by
    rcases e with e|e
    ·rw[e];exact jV (h1 _ (.inl rfl))
    ·rw[e];exact jV (h1 _ (.inr rfl))
   obtain⟨_,_,k1,_⟩:=r7 ii
   have hge:2*Li≤aF (gtW (M i i)):=by
    have:2*Li≤ab (aF (M i i).1):=by
     rcases h2 with h2|h2
     ·have:=h2 _ (.inl rfl);unfold loW at this;rcases bw (aF (M i i).1) with⟨_,e⟩|⟨_,e⟩<;>grind
     ·have:=h2 _ (.inl rfl);unfold loW at this;rcases bw (aF (M i i).1) with⟨_,e⟩|⟨_,e⟩<;>grind
    grind
   exact yT q1 hz g2 g3 (i:=i) ⟨by grind,by grind⟩ (n-k) k _ ⟨by decide⟩ (fun x c d=>oks i x (by omega) (by omega) c (by omega)) (by omega) (by omega)
end
section
open Go.RowKit Go.Extern Ieee
attribute [local go_sem] av
theorem AE {d f:Nat} (h1:d<18446744073709551616) (h2:d % 9223372036854775808≤9218868437227405312) (h3:f<18446744073709551616) (h4:f % 9223372036854775808≤9218868437227405312):double.order d f=some (compare (kw d) (kw f)):=by
 have:=iO (s:=decide (9223372036854775808≤d)) (t:=decide (9223372036854775808≤f)) h2 h4;rwa [gZ h1,gZ h3] at this
def plW (x:Nat):Nat:=if 0<kw x∧kw x<553942754166571008 then 0 else if kw x<0∧-553942754166571008<kw x then 9777314791021346816 else x
theorem mp (x:Nat) (w:World) (h1:x<18446744073709551616) (h2:x % 9223372036854775808≤9218868437227405312):
  ax 179 #[fV x] w fun e w'=>e= .returned (fV (plW x))∧w'=w:=by
 have o1:FloatKind.f64.format.order x 0=some (compare (kw x) (kw 0)):=AE h1 h2 (by decide) (by decide);have o2:FloatKind.f64.format.order x 553942754166571008=some (compare (kw x) (kw 553942754166571008)):=AE h1 h2 (by decide) (by decide);have o3:FloatKind.f64.format.order x 9777314791021346816=some (compare (kw x) (kw 9777314791021346816)):=AE h1 h2 (by decide) (by decide);have k0:kw 0=0:=rfl;have k1:kw 553942754166571008=553942754166571008:=rfl;have k2:kw 9777314791021346816=-553942754166571008:=rfl;rw[k0] at o1;rw[k1] at o2;rw[k2] at o3;clear k0 k1 k2 h1 h2;have hp:Hid (plW x=if 0<kw x∧kw x<553942754166571008 then 0 else if kw x<0∧-553942754166571008<kw x then 9777314791021346816 else x):=rfl;generalize plW x=y at*;generalize kw x=k at*;rcases(show 553942754166571008≤k∨(0<k∧k<553942754166571008)∨k=0∨(k<0∧-553942754166571008<k)∨k≤-553942754166571008 by omega) with h|h|h|h|h
 ·have e:Hid (y=x):=by show y=x;rw[hp.out,if_neg (by omega),if_neg (by omega)]
  rw[bJ (show(0:Int)<k by omega)] at o1;rcases(show 553942754166571008<k∨k=553942754166571008 by omega) with h'|h'
  ·rw[bJ h'] at o2;clear hp h h' o3;go_enter Tryz.func179,Tryz.ntmps179;go_wp2
   go_ret
   (rw[e.out];exact⟨rfl,rfl⟩)
  ·rw[cR h'] at o2;clear hp h h' o3;go_enter Tryz.func179,Tryz.ntmps179;go_wp2
   go_ret
   (rw[e.out];exact⟨rfl,rfl⟩)
 ·have e:Hid (y=0):=by show y=0;rw[hp.out,if_pos h]
  rw[bJ h.1] at o1;rw[bX h.2] at o2;clear hp h o3;go_enter Tryz.func179,Tryz.ntmps179;go_wp2
  go_ret
  (rw[e.out];exact⟨rfl,rfl⟩)
 ·have e:Hid (y=x):=by show y=x;rw[hp.out,if_neg (by omega),if_neg (by omega)]
  rw[cR h] at o1;clear hp h o2 o3;go_enter Tryz.func179,Tryz.ntmps179;go_wp2
  go_ret
  (rw[e.out];exact⟨rfl,rfl⟩)
 ·have e:Hid (y=9777314791021346816):=by show y=9777314791021346816;rw[hp.out,if_neg (by omega),if_pos h]
  rw[bX h.1] at o1;rw[bJ h.2] at o3;clear hp h o2;go_enter Tryz.func179,Tryz.ntmps179;go_wp2
  go_ret
  (rw[e.out];exact⟨rfl,rfl⟩)
 ·have e:Hid (y=x):=by show y=x;rw[hp.out,if_neg (by omega),if_neg (by omega)]
  rw[bX (show k<(0:Int) by omega)] at o1;rcases(show k< -553942754166571008∨k=-553942754166571008 by omega) with h'|h'
  ·rw[bX h'] at o3;clear hp h h' o2;go_enter Tryz.func179,Tryz.ntmps179;go_wp2
   go_ret
   (rw[e.out];exact⟨rfl,rfl⟩)
  ·rw[cR h'] at o3;clear hp h h' o2;go_enter Tryz.func179,Tryz.ntmps179;go_wp2
   go_ret
   (rw[e.out];exact⟨rfl,rfl⟩)
structure FZ (d:Nat) (p:Int):Prop where
 lt:d<18446744073709551616
 num:d % 9223372036854775808≤9218868437227405312
 pos:aW d=p
theorem FR.fz {d:Nat} {p:Int} (h:FR d p):FZ d p:=⟨h.lt,h.num,h.pos⟩
theorem FZ.plW {d:Nat} {p:Int} (h:FZ d p):FZ (plW d) (pbP p)∧(d≠9223372036854775808→plW d≠9223372036854775808):=by
 have hk:=jH d;rw[h.pos] at hk;have hlt:=h.lt;have hnum:=h.num;have hka:=vQ d;unfold Go.Proofs.YtonhpkigoplmaaaGreatDoor.plW;have c:=cZ ((kw d).natAbs:Int);have cb:=cP ((kw d).natAbs:Int);by_cases h1:0<kw d∧kw d<553942754166571008
 ·rw[if_pos h1];rw[if_neg (by omega),decide_eq_false (by omega)] at hk;unfold sgI at hk;rw[if_neg Bool.false_ne_true] at hk;have hp:pbP p=0:=by unfold pbP;rw[if_pos (by omega)]
  rw[hp];exact⟨⟨by decide,by decide,rfl⟩,fun _=>by decide⟩
 ·rw[if_neg h1];by_cases h2:kw d<0∧-553942754166571008<kw d
  ·rw[if_pos h2];rw[if_neg (by omega),decide_eq_true (by omega)] at hk;unfold sgI at hk;rw[if_pos rfl] at hk;have hp:pbP p=-553942754166571008:=by unfold pbP;rw[if_neg (by omega),if_pos (by omega)]
   rw[hp];exact⟨⟨by decide,by decide,rfl⟩,fun _=>by decide⟩
  ·rw[if_neg h2]
   have hp:pbP p=p:=by
    unfold pbP;by_cases h0:kw d=0
    ·rw[if_pos h0] at hk;rw[if_neg (by omega),if_neg (by omega)]
    ·rw[if_neg h0] at hk;unfold sgI at hk;by_cases hn:kw d<0
     ·rw[decide_eq_true hn,if_pos rfl] at hk;rw[if_neg (by omega),if_neg (by omega)]
     ·rw[decide_eq_false hn,if_neg Bool.false_ne_true] at hk;rw[if_neg (by omega),if_neg (by omega)]
   rw[hp];exact⟨h,fun hz=>hz⟩
theorem FZ.neg {d:Nat} {p:Int} (h:FZ d p):FZ (negW d) (-p):=by
 have hlt:=h.lt;have hnum:=h.num;have e:=sH hlt;have e1:negW d % 9223372036854775808=d % 9223372036854775808:=by rw[e];split<;>omega
 refine⟨g8 hlt,by rw[e1];exact hnum,?_⟩;rw[←h.pos];unfold aW;rw[e1];by_cases h0:d % 9223372036854775808=0
 ·rw[if_pos h0,if_pos h0];rfl
 ·rw[if_neg h0,if_neg h0];unfold sgI;by_cases hd:9223372036854775808≤d
  ·have:¬9223372036854775808≤negW d:=by rw[e,if_pos hd];omega
   rw[decide_eq_true hd,decide_eq_false this,if_pos rfl,if_neg Bool.false_ne_true,Int.neg_neg]
  ·have:9223372036854775808≤negW d:=by rw[e,if_neg hd];omega
   rw[decide_eq_false hd,decide_eq_true this,if_pos rfl,if_neg Bool.false_ne_true]
theorem FZ.posW {d:Nat} {p:Int} (h:FZ d p):FR (posW d) p:=by
 have hlt:=h.lt;have hnum:=h.num;refine⟨fP hlt,mJ d,?_,?_⟩
 ·unfold Go.Proofs.YtonhpkigoplmaaaGreatDoor.posW;split
  ·decide
  ·exact hnum
 ·rw[←h.pos];unfold Go.Proofs.YtonhpkigoplmaaaGreatDoor.posW;split
  ·rename_i h0
   unfold aW;rw[if_pos h0];rfl
  ·rfl
theorem FZ.plain {d:Nat} {p:Int} (h:FZ d p):(au d).isSome=plP p:=by
 have:=h.posW.plain;rwa [dU d h.lt] at this
end
section
open Go.RowKit Go.Extern Ieee
attribute [local go_sem] av
def SvR (A:Nat→Addr) (w:World) (r:Option (Nat×Nat)) (ev:Ending) (w':World):Prop:=
 ∃lo hi v,ev= .returned (.tuple #[gF lo hi,v])∧Below w.heap.size w w'∧(r=some (lo,hi)∧v= .nilIface∨r=none∧v= aL (A 8))
theorem FG {a b:Nat} {p q:Int} (ha:FZ a p) (hb:FZ b q) (pa:plP p=true) (pb:plP q=true) (h:p≤q):iK b a=false:=by
 have e1:=dU a ha.lt;have e2:=dU b hb.lt;have sa:(au a).isSome=true:=by rw[ha.plain];exact pa
 have sb:(au b).isSome=true:=by rw[hb.plain];exact pb
 have ia:Iv (posW a) (posW a):=⟨ha.posW.lt,ha.posW.lt,ha.posW.nz,ha.posW.nz,cC (by rw[e1];exact sa),cC (by rw[e1];exact sa),Int.le_refl _⟩;have ib:Iv (posW b) (posW b):=⟨hb.posW.lt,hb.posW.lt,hb.posW.nz,hb.posW.nz,cC (by rw[e2];exact sb),cC (by rw[e2];exact sb),Int.le_refl _⟩;have:=dX ib ia;rw[ha.posW.pos,hb.posW.pos,decide_eq_false (by omega)] at this;unfold lessT plT at this;unfold iK;rw[e1,e2] at this;exact this
theorem CJ {lo hi:Nat} {p q:Int} (hl:FZ lo p) (hh:FZ hi q) (h:p≤q):(makeN (plW lo) (negW (plW (negW hi)))).2.2=0∧eS p q=some ((makeN (plW lo) (negW (plW (negW hi)))).1,(makeN (plW lo) (negW (plW (negW hi)))).2.1)∨(makeN (plW lo) (negW (plW (negW hi)))).2.2≠0∧(makeN (plW lo) (negW (plW (negW hi)))).2.2≤2∧eS p q=none:=by
 have f1:=hl.plW.1;have f2:FZ (negW (plW (negW hi))) (paP q):=hh.neg.plW.1.neg;have l1:=xv p;have l2:=CB q;generalize plW lo=a at*;generalize negW (plW (negW hi))=b at*;unfold makeN eS;rw[f1.plain,f2.plain];by_cases h1:plP (pbP p)=true
 ·by_cases h2:plP (paP q)=true
  ·left;rw[if_neg (by rw[h1,h2];simp),FG f1 f2 h1 h2 (by omega),if_neg Bool.false_ne_true,if_pos ⟨h1,h2⟩];refine⟨rfl,?_⟩;rw[f1.posW.word h1,f2.posW.word h2]
  ·right;have h2':plP (paP q)=false:=by cases hc:plP (paP q)<;>simp_all
   rw[if_pos (by rw[h2'];simp),if_neg (by rw[h2'];simp)];exact⟨by decide,by decide,rfl⟩
 ·right;have h1':plP (pbP p)=false:=by cases hc:plP (pbP p)<;>simp_all
  rw[if_pos (by rw[h1'];simp),if_neg (by rw[h1'];simp)];exact⟨by decide,by decide,rfl⟩
theorem jW (A:Nat→Addr) (lo hi:Nat) (p q:Int) (w:World) (hS:aE A w) (hl:FZ lo p) (hh:FZ hi q) (h:p≤q):
  ax 159 #[fV lo,fV hi] w fun ev w'=>SvR A w (eS p q) ev w':=by
 have H1:Hid (∀W,ax 179 #[fV lo] W fun e w'=>e= .returned (fV (plW lo))∧w'=W):=fun W=>mp lo W hl.lt hl.num
 have H2:Hid (∀W,ax 179 #[fV (negW hi)] W fun e w'=>e= .returned (fV (plW (negW hi)))∧w'=W):=fun W=>mp (negW hi) W hh.neg.lt hh.neg.num
 have n0:∀w,(Op.unary .neg (fV hi)).run Tryz.prog w= .ok (fV (negW hi)) w:=fun w=>cm w _
 have n1:∀w,(Op.unary .neg (fV (plW (negW hi)))).run Tryz.prog w= .ok (fV (negW (plW (negW hi)))) w:=fun w=>cm w _
 have HM:Hid (∀W,Below w.heap.size w W→ax 55 #[fV (plW lo),fV (negW (plW (negW hi)))] W fun ev w'=>kJ A (plW lo) (negW (plW (negW hi))) W ev w'):=fun W hb=>iT A _ _ W hl.plW.1.lt hh.neg.plW.1.neg.lt (hS.below hb ae)
 have hm:=hid (CJ hl hh h);have HS:=hid hS;clear hl hh h hS;generalize plW (negW hi)=y1 at*;generalize negW y1=y2 at*;generalize negW hi=y0 at*;generalize plW lo=x1 at*;unfold kJ at HM;generalize makeN x1 y2=m at*;obtain⟨m1,m2,m3⟩:=m;simp only at hm HM;go_enter Tryz.func159,Tryz.ntmps159;go_wp2_with fail;have hB:Below w.heap.size w (w.alloc (.cells #[fV 0,fV 0] 67)):=aK.alloc ae _;have K0:=af w (.cells #[fV 0,fV 0] 67);generalize(w.alloc (.cells #[fV 0,fV 0] 67))=W1 at*;refine (H1.out _).mono ?_;rintro e w1 ⟨rfl,rfl⟩;go_wp2_with fail;refine (H2.out _).mono ?_;rintro e w1 ⟨rfl,rfl⟩;clear H1 H2;go_wp2_with fail;refine (HM.out _ hB).mono ?_;rintro e w2 ⟨rfl,hb2⟩;have HB:Hid (Below w.heap.size w w2):=hB.trans (hb2.mono hB.size);have K:=hid (aa K0 hb2);clear hB K0 hb2 HM n0 n1;have lk:=ag K.out;go_wp2_with fail;have HB:Hid (Below w.heap.size w (w2.alloc (.cells #[fV m1,fV m2] 67))):=HB.out.alloc HB.out.size _;have K:=hid (ai K.out (.cells #[fV m1,fV m2] 67));have K2:=hid (af w2 (.cells #[fV m1,fV m2] 67));have HI:=hid (HS.out.below HB.out ae);obtain⟨k0,k1,k2,k3⟩:=aj K.out;obtain⟨t0,t1,t2,t3⟩:=aj K2.out;have hne:w2.heap.size≠w.heap.size:=by omega
 generalize w2.heap.size=gt at*;generalize(w2.alloc (.cells #[fV m1,fV m2] 67))=W3 at*;have l8:8<w.heap.size:=bL (HS.out.cell 8 (by omega));clear K2 lk HS;rcases hm.out with⟨e0,hw⟩|⟨e0,e1,hw⟩
 ·have e:m8 A m3= .nilIface:=by unfold m8;rw[if_pos e0]
  have HW:=hid hw;have HB:Hid (Below w.heap.size w ((W3.setCell ⟨w.heap.size,0,none⟩ (fV m1)).setCell ⟨w.heap.size,1,none⟩ (fV m2))):=(HB.out.setCell (by exact Nat.le_refl _) _).setCell (by exact Nat.le_refl _) _;have K:=hid (aA K.out (a:=fV m1) (b:=fV m2));rw[e];clear hm e e0 hw HI;go_simp;go_wp2_with fail;clear k0 k1 k2 k3 t0 t1 t2 t3;obtain⟨k0,k1,k2,k3⟩:=aj K.out;generalize((W3.setCell ⟨w.heap.size,0,none⟩ (fV m1)).setCell ⟨w.heap.size,1,none⟩ (fV m2))=W4 at*;refine bodyPost_ret (v:= .tuple #[gF m1 m2,.nilIface]) (by simp[results,Tryz.results159,go_sem,k0,k1]) rfl ?_;exact⟨m1,m2,_,rfl,HB.out,.inl ⟨HW.out,rfl⟩⟩
 ·have e:m8 A m3= .iface 229 (.pointer (some (A (m3-1)))):=by unfold m8;rw[if_neg e0]
  have HW:=hid hw;rw[e];clear hm e e0 e1 hw;generalize A (m3-1)=am at*;have c8:W3.cell? ⟨8,0,none⟩=some (aL (A 8)):=HI.out.cell 8 (by omega);go_simp;go_wp2_with fail;have HB:Hid (Below w.heap.size w ((W3.setCell ⟨w.heap.size,0,none⟩ (fV 0)).setCell ⟨w.heap.size,1,none⟩ (fV 0)).drew):=((HB.out.setCell (by exact Nat.le_refl _) _).setCell (by exact Nat.le_refl _) _).drew;have K:Hid (((W3.setCell ⟨w.heap.size,0,none⟩ (fV 0)).setCell ⟨w.heap.size,1,none⟩ (fV 0)).drew.heap[w.heap.size]?=_):=aA K.out (a:=fV 0) (b:=fV 0);go_region
  all_goals(go_wp2_with fail)
  all_goals(clear k0 k1 k2 k3 t0 t1 t2 t3 c8;obtain⟨k0,k1,k2,k3⟩:=aj K.out;generalize((W3.setCell ⟨w.heap.size,0,none⟩ (fV 0)).setCell ⟨w.heap.size,1,none⟩ (fV 0)).drew=W4 at*)
  all_goals(refine bodyPost_ret (v:= .tuple #[gF 0 0,aL (A 8)]) (by simp[results,Tryz.results159,go_sem,k0,k1]) rfl ?_;exact⟨0,0,_,rfl,HB.out,.inr ⟨HW.out,rfl⟩⟩)
end
section
open Go.RowKit Go.Extern Ieee
attribute [local go_sem] av
theorem G5 {al ah bl_ bh:Nat} (i:Iv al ah) (j:Iv bl_ bh):∃lo hi p q,FZ lo p∧FZ hi q∧p≤q∧eS p q=muX (al,ah) (bl_,bh)∧∀w,aw 91 #[.func (.func 92) #[] #[],gF al ah,gF bl_ bh] w (.tuple #[fV lo,fV hi]):=by
 obtain⟨d1,u1,e1,g1⟩:=eN i.lt1 j.lt1 i.p1 j.p1;obtain⟨d2,u2,e2,g2⟩:=eN i.lt1 j.lt2 i.p1 j.p2;obtain⟨d3,u3,e3,g3⟩:=eN i.lt2 j.lt1 i.p2 j.p1;obtain⟨d4,u4,e4,g4⟩:=eN i.lt2 j.lt2 i.p2 j.p2;have f1:=e1.1.mn e2.1;have f2:=f1.mn e3.1;have f3:=f2.mn e4.1;have k1:=e1.2.mx e2.2;have k2:=k1.mx e3.2;have k3:=k2.mx e4.2;refine⟨_,_,_,_,f3.fz,k3.fz,?_,rfl,fun w=>qn al ah bl_ bh d1 u1 d2 u2 d3 u3 d4 u4 _ _ _ _ _ _ w (fun w ts t=>bz w ts t e1.1 e2.1) (fun w ts t=>bz w ts t f1 e3.1) (fun w ts t=>bz w ts t f2 e4.1) (fun w ts t=>bA w ts t e1.2 e2.2) (fun w ts t=>bA w ts t k1 e3.2) (fun w ts t=>bA w ts t k2 e4.2) g1 g2 g3 g4⟩;have:=iX (aT (plT al) (plT bl_));omega
theorem Fe {al ah bl_ bh:Nat} (i:Iv al ah) (j:Iv bl_ bh) (hz:holdsT (plT bl_) (plT bh)=false):∃lo hi p q,FZ lo p∧FZ hi q∧p≤q∧eS p q=quX (al,ah) (bl_,bh)∧∀w,aw 91 #[.func (.func 94) #[] #[],gF al ah,gF bl_ bh] w (.tuple #[fV lo,fV hi]):=by
 obtain⟨n1,n2⟩:=zY j hz;obtain⟨d1,u1,e1,g1⟩:=fb i.lt1 j.lt1 i.p1 j.p1 n1;obtain⟨d2,u2,e2,g2⟩:=fb i.lt1 j.lt2 i.p1 j.p2 n2;obtain⟨d3,u3,e3,g3⟩:=fb i.lt2 j.lt1 i.p2 j.p1 n1;obtain⟨d4,u4,e4,g4⟩:=fb i.lt2 j.lt2 i.p2 j.p2 n2;have f1:=e1.1.mn e2.1;have f2:=f1.mn e3.1;have f3:=f2.mn e4.1;have k1:=e1.2.mx e2.2;have k2:=k1.mx e3.2;have k3:=k2.mx e4.2;refine⟨_,_,_,_,f3.fz,k3.fz,?_,rfl,fun w=>pV al ah bl_ bh d1 u1 d2 u2 d3 u3 d4 u4 _ _ _ _ _ _ w (fun w ts t=>bz w ts t e1.1 e2.1) (fun w ts t=>bz w ts t f1 e3.1) (fun w ts t=>bz w ts t f2 e4.1) (fun w ts t=>bA w ts t e1.2 e2.2) (fun w ts t=>bA w ts t k1 e3.2) (fun w ts t=>bA w ts t k2 e4.2) g1 g2 g3 g4⟩;have:=iX (quoN (plT al) (plT bl_));omega
theorem Hj {al ah bl_ bh:Nat} (i:Iv al ah) (j:Iv bl_ bh):∃lo hi p q,FZ lo p∧FZ hi q∧p≤q∧eS p q=suX (al,ah) (bl_,bh)∧∀w,aw 90 #[gF al ah,gF bl_ bh] w (.tuple #[fV lo,fV hi]):=by
 obtain⟨d1,u1,e1,g1⟩:=jg i.lt1 (g8 j.lt2) i.z1 i.p1 (iY j.lt2 j.p2);obtain⟨d2,u2,e2,g2⟩:=jg i.lt2 (g8 j.lt1) i.z2 i.p2 (iY j.lt1 j.p1);exact⟨d1,u2,_,_,e1.1.fz,e2.2.fz,u6 (a:=(al,ah)) (b:=(bl_,bh)) i j,rfl,fun w=>rY al ah bl_ bh d1 u1 d2 u2 w g1 g2⟩
structure LP (w W:World) (al ah:Nat):Prop where
 k0:W.heap[w.heap.size]?=some (.cells #[fV al,fV ah] 67 (0,0))
 k3:W.heap[w.heap.size+1+1+1]?=some (.cells #[fV 0,fV 0] 67 (0,0))
 hb:Below w.heap.size w W
theorem LP.below {w W W':World} {al ah:Nat} (m:LP w W al ah) (hb:Below W.heap.size W W'):LP w W' al ah:=⟨aa m.k0 hb,aa m.k3 hb,m.hb.trans (hb.mono m.hb.size)⟩
theorem LP.alloc {w W:World} {al ah:Nat} (m:LP w W al ah) (o:Obj):LP w (W.alloc o) al ah:=m.below (aK.alloc ae o)
theorem qD (A:Nat→Addr) (al ah bl_ bh cl ch:Nat) (w:World) (r1 r2:Option (Nat×Nat)) (lo hi:Nat) (hS:aE A w)
  (hm:∀W,aw 91 #[.func (.func 92) #[] #[],gF bl_ bh,gF cl ch] W (.tuple #[fV lo,fV hi]))
  (hw:∀W,aE A W→ax 159 #[fV lo,fV hi] W fun ev w'=>SvR A W r1 ev w')
  (hd:∀tl th,r1=some (tl,th)→∃l2 h2,(∀W,aw 90 #[gF al ah,gF tl th] W (.tuple #[fV l2,fV h2]))∧∀W,aE A W→ax 159 #[fV l2,fV h2] W fun ev w'=>SvR A W r2 ev w')
  (hr:r1=none→r2=none):
  ax 158 #[gF al ah,gF bl_ bh,gF cl ch] w fun ev w'=>SvR A w r2 ev w':=by
 have HM:=hid hm;have HW:=hid (fun(W:World) (hb:Below w.heap.size w W)=>hw W (hS.below hb ae));have HD:=hid hd;have HS:=hid hS;have HR:=hid hr;clear hm hw hd hS hr;go_enter Tryz.func158,Tryz.ntmps158;go_wp2_with fail
 have m:Hid (LP w ((((w.alloc (.cells #[fV al,fV ah] 67)).alloc (.cells #[fV bl_,fV bh] 67)).alloc (.cells #[fV cl,fV ch] 67)).alloc (.cells #[fV 0,fV 0] 67)) al ah):=by
  refine⟨ai (ai (ai (af w _) _) _) _,?_,(((((Below.refl _ w).alloc ae _).alloc (by simp) _).alloc (by simp;omega) _).alloc (by simp;omega) _)⟩;have:=af (((w.alloc (.cells #[fV al,fV ah] 67)).alloc (.cells #[fV bl_,fV bh] 67)).alloc (.cells #[fV cl,fV ch] 67)) (.cells #[fV 0,fV 0] 67);simp only[World.size_alloc] at this;exact this
 generalize((((w.alloc (.cells #[fV al,fV ah] 67)).alloc (.cells #[fV bl_,fV bh] 67)).alloc (.cells #[fV cl,fV ch] 67)).alloc (.cells #[fV 0,fV 0] 67))=W1 at*;refine (HM.out _).mono ?_;rintro e w1 ⟨rfl,hb1⟩;have m:=hid (m.out.below hb1);clear hb1 HM;go_wp2_with fail;refine (HW.out _ m.out.hb).mono ?_;rintro e w2 ⟨tl,th,v,rfl,hb2,hor⟩;have m:=hid (m.out.below hb2);clear hb2 HW;have l3:=ag m.out.k3;rcases hor with⟨e1,rfl⟩|⟨e1,rfl⟩
 ·obtain⟨l2,h2,d1,d2⟩:=HD.out tl th e1;have HD1:=hid d1;have HD2:=hid (fun(W:World) (hb:Below w.heap.size w W)=>d2 W (HS.out.below hb ae));clear HD HR HS d1 d2 e1;obtain⟨a0,a1,-,-⟩:=aj m.out.k0;have l0:=ag m.out.k0;go_wp2_with fail;have m:=hid (m.out.alloc (.cells #[fV tl,fV th] 67));clear a0 a1 l3 l0;generalize(w2.alloc (.cells #[fV tl,fV th] 67))=W3 at*;refine (HD1.out _).mono ?_;rintro e w3 ⟨rfl,hb3⟩;have m:=hid (m.out.below hb3);clear hb3 HD1;go_wp2_with fail;refine (HD2.out _ m.out.hb).mono ?_;rintro e w4 ⟨ul,uh,v,rfl,hb4,hor⟩;have m:=hid (m.out.below hb4);clear hb4 HD2;have HO:=hid hor;clear hor;obtain⟨k0,k1,k2,k3⟩:=aj m.out.k3;have HB:Hid (Below w.heap.size w ((w4.setCell ⟨w.heap.size+1+1+1,0,none⟩ (fV ul)).setCell ⟨w.heap.size+1+1+1,1,none⟩ (fV uh))):=(m.out.hb.setCell (by show w.heap.size≤w.heap.size+1+1+1;omega) _).setCell (by show w.heap.size≤w.heap.size+1+1+1;omega) _;have K:=hid (aA m.out.k3 (a:=fV ul) (b:=fV uh));go_wp2_with fail;clear k0 k1 k2 k3;obtain⟨k0,k1,k2,k3⟩:=aj K.out;generalize((w4.setCell ⟨w.heap.size+1+1+1,0,none⟩ (fV ul)).setCell ⟨w.heap.size+1+1+1,1,none⟩ (fV uh))=W4 at*;refine bodyPost_ret (v:= .tuple #[gF ul uh,v]) (by simp[results,Tryz.results158,go_sem,k0,k1]) rfl ?_;exact⟨ul,uh,_,rfl,HB.out,HO.out⟩
 ·have hn:=HR.out e1;have HN:=hid hn;clear HD HR HS e1 hn;obtain⟨k0,k1,k2,k3⟩:=aj m.out.k3;have HB:Hid (Below w.heap.size w (((w2.setCell ⟨w.heap.size+1+1+1,0,none⟩ (fV 0)).setCell ⟨w.heap.size+1+1+1,1,none⟩ (fV 0)).alloc (.cells #[fV tl,fV th] 67))):=((m.out.hb.setCell (by show w.heap.size≤w.heap.size+1+1+1;omega) _).setCell (by show w.heap.size≤w.heap.size+1+1+1;omega) _).alloc (by simp only[World.size_setCell];omega) _;have K:=hid (ai (aA m.out.k3 (a:=fV 0) (b:=fV 0)) (.cells #[fV tl,fV th] 67));go_wp2_with fail;clear k0 k1 k2 k3;obtain⟨k0,k1,k2,k3⟩:=aj K.out;generalize(((w2.setCell ⟨w.heap.size+1+1+1,0,none⟩ (fV 0)).setCell ⟨w.heap.size+1+1+1,1,none⟩ (fV 0)).alloc (.cells #[fV tl,fV th] 67))=W4 at*;refine bodyPost_ret (v:= .tuple #[gF 0 0,aL (A 8)]) (by simp[results,Tryz.results158,go_sem,k0,k1]) rfl ?_;exact⟨0,0,_,rfl,HB.out,.inr ⟨HN.out,rfl⟩⟩
theorem lY (A:Nat→Addr) {al ah bl_ bh cl ch:Nat} (w:World) (hS:aE A w) (i:Iv al ah) (j:Iv bl_ bh) (k:Iv cl ch):
  ax 158 #[gF al ah,gF bl_ bh,gF cl ch] w fun ev w'=>SvR A w (lpX muX suX (al,ah) (bl_,bh) (cl,ch)) ev w':=by
 obtain⟨lo,hi,p,q,f1,f2,hle,hw,hc⟩:=G5 j k;refine qD A al ah bl_ bh cl ch w (muX (bl_,bh) (cl,ch)) _ lo hi hS hc (fun W hS=>?_) (fun tl th he=>?_) (fun h=>by unfold lpX;rw[h];rfl)
 ·rw[←hw];exact jW A lo hi p q W hS f1 f2 hle
 ·have it:=Ad he;obtain⟨l2,h2,p2,q2,g1,g2,hle2,hw2,hc2⟩:=Hj i it;refine⟨l2,h2,hc2,fun W hS=>?_⟩;have:lpX muX suX (al,ah) (bl_,bh) (cl,ch)=eS p2 q2:=by unfold lpX;rw[he,hw2];rfl
  rw[this];exact jW A l2 h2 p2 q2 W hS g1 g2 hle2
end
section
open Go.RowKit Go.Extern Ieee
attribute [local go_sem] av
theorem xC {al ah:Nat} (i:Iv al ah) (w:World):aw 178 #[gF al ah] w (fV (gtW (al,ah))):=by
 have H1:Hid (∀W,ax 160 #[fV al] W fun e w'=>e= .returned (fV (absW al))∧w'=W):=fun W=>jN al W i.lt1
 have H2:Hid (∀W,ax 160 #[fV ah] W fun e w'=>e= .returned (fV (absW ah))∧w'=W):=fun W=>jN ah W i.lt2
 have mx:∀(w:World) (ts:Array TypeId) (t:TypeId),(Builtin.max_ ts t #[fV (absW al),fV (absW ah)]).run Tryz.prog w= .ok (fV (gtW (al,ah))) w:=fun w ts t=>bA w ts t (dT i.lt1 i.p1).1.nn.fr (dT i.lt2 i.p2).1.nn.fr
 clear i;generalize absW al=x at*;generalize absW ah=y at*;generalize gtW (al,ah)=z at*;go_enter Tryz.func178,Tryz.ntmps178;go_wp2_with fail;have hB:Below w.heap.size w (w.alloc (.cells #[fV al,fV ah] 67)):=aK.alloc ae _;have K:=af w (.cells #[fV al,fV ah] 67);generalize(w.alloc (.cells #[fV al,fV ah] 67))=W1 at*;obtain⟨k0,k1,-,-⟩:=aj K
 go_region_with (first
  |(go_at_call 160;with_reducible (refine (H1.out _).mono ?_);rintro e w' ⟨rfl,rfl⟩)
  |(go_at_call 160;with_reducible (refine (H2.out _).mono ?_);rintro e w' ⟨rfl,rfl⟩))
 all_goals(go_wp2;go_ret;exact⟨rfl,hB.drew⟩)
theorem Cq {al ah:Nat} (i:Iv al ah) (w:World):aw 177 #[gF al ah] w (fV (lsW (al,ah))):=by
 have H0:Hid (∀W,aw 93 #[gF al ah] W (.bool (holdsT (plT al) (plT ah)))):=fun W=>nH i W
 have H1:Hid (∀W,ax 160 #[fV al] W fun e w'=>e= .returned (fV (absW al))∧w'=W):=fun W=>jN al W i.lt1
 have H2:Hid (∀W,ax 160 #[fV ah] W fun e w'=>e= .returned (fV (absW ah))∧w'=W):=fun W=>jN ah W i.lt2
 have mn:∀(w:World) (ts:Array TypeId) (t:TypeId),(Builtin.min_ ts t #[fV (absW al),fV (absW ah)]).run Tryz.prog w= .ok (fV (fmin (absW al) (absW ah))) w:=fun w ts t=>bz w ts t (dT i.lt1 i.p1).1.nn.fr (dT i.lt2 i.p2).1.nn.fr
 have hz:Hid (lsW (al,ah)=if holdsT (plT al) (plT ah)=true then 0 else fmin (absW al) (absW ah)):=rfl;clear i;generalize holdsT (plT al) (plT ah)=b at*;generalize absW al=x at*;generalize absW ah=y at*;generalize fmin x y=z at*;generalize lsW (al,ah)=r at*;go_enter Tryz.func177,Tryz.ntmps177;go_wp2_with fail;have hB:Below w.heap.size w (w.alloc (.cells #[fV al,fV ah] 67)):=aK.alloc ae _;have K:=af w (.cells #[fV al,fV ah] 67);generalize(w.alloc (.cells #[fV al,fV ah] 67))=W1 at*;refine (H0.out _).mono ?_;rintro e w1 ⟨rfl,hb1⟩;have hB:Below w.heap.size w w1:=hB.trans (hb1.mono hB.size);have K:=aa K hb1;clear hb1 H0
 cases b
 ·have e:Hid (r=z):=by show r=z;rw[hz.out,if_neg Bool.false_ne_true]
  obtain⟨k0,k1,-,-⟩:=aj K;clear K hz;go_wp2_with fail
  go_region_with (first
   |(go_at_call 160;with_reducible (refine (H1.out _).mono ?_);rintro e w' ⟨rfl,rfl⟩)
   |(go_at_call 160;with_reducible (refine (H2.out _).mono ?_);rintro e w' ⟨rfl,rfl⟩))
  all_goals(go_wp2;go_ret;rw[e.out];exact⟨rfl,hB.drew⟩)
 ·have e:Hid (r=0):=by show r=0;rw[hz.out,if_pos rfl]
  clear K hz;go_wp2
  go_ret
  rw[e.out];exact⟨rfl,hB⟩
end
section
open Go.RowKit Go.Extern Ieee
attribute [local go_sem] av
def bI (W:World) (g m:Nat) (r:Nat→Nat×Nat):Prop:=∃cur,W.heap[g]?=some (.cells cur 67 (0,0))∧m*2≤cur.size∧∀j,j<m→cur[j*2]?=some (fV (r j).1)∧cur[j*2+1]?=some (fV (r j).2)
theorem bI.lt {W:World} {g m:Nat} {r:Nat→Nat×Nat} (h:bI W g m r):g<W.heap.size:=by
 obtain⟨cur,h1,_⟩:=h;exact ag h1
theorem bI.cell {W:World} {g m:Nat} {r:Nat→Nat×Nat} (h:bI W g m r) {j:Nat} (hj:j<m):W.cell? ⟨g,j*2,none⟩=some (fV (r j).1)∧W.cell? ⟨g,j*2+1,none⟩=some (fV (r j).2)∧W.frozen? ⟨g,j*2,none⟩=false∧W.frozen? ⟨g,j*2+1,none⟩=false:=by
 obtain⟨cur,h1,h2,h3⟩:=h;obtain⟨a,b⟩:=h3 j hj;refine⟨by rw[bf h1];exact a,by rw[bf h1];exact b,?_,?_⟩<;>simp[World.frozen?,h1]
theorem bI.below {W W':World} {g m:Nat} {r:Nat→Nat×Nat} (h:bI W g m r) (hb:Below W.heap.size W W'):bI W' g m r:=by
 obtain⟨cur,h1,h2⟩:=h;exact⟨cur,aa h1 hb,h2⟩
theorem bI.grown {W W':World} {g g' m:Nat} {r:Nat→Nat×Nat} (h:bI W g m r) (hg:W.grownBy W' (some g')) (hne:g≠g'):bI W' g m r:=by
 obtain⟨cur,h1,h2⟩:=h;exact⟨cur,(hg.block g (ag h1) (fun e=>hne (by cases e;rfl))).trans h1,h2⟩
theorem fL {W:World} {g:Nat} {cur:Array Value} {t:TypeId} (h:W.heap[g]?=some (.cells cur t (0,0))) (i:Nat) (v:Value):(W.setCell ⟨g,i,none⟩ v).heap[g]?=some (.cells (cur.setIfInBounds i v) t (0,0)):=by
 obtain⟨hlt,hk⟩:=Array.getElem?_eq_some_iff.1 h
 show(W.heap.modify g _)[g]?=_
 rw[Array.getElem?_eq_getElem (by rw[Array.size_modify];exact hlt),Array.getElem_modify_self,hk]
 rfl
theorem bI.set {W:World} {g m:Nat} {r:Nat→Nat×Nat} (h:bI W g m r) {j:Nat} (hj:j<m) (a b:Nat):bI ((W.setCell ⟨g,j*2,none⟩ (fV a)).setCell ⟨g,j*2+1,none⟩ (fV b)) g m (upd r j (a,b)):=by
 obtain⟨cur,h1,h2,h3⟩:=h;refine⟨(cur.setIfInBounds (j*2) (fV a)).setIfInBounds (j*2+1) (fV b),fL (fL h1 _ _) _ _,by simpa using h2,fun i hi=>?_⟩
 ·obtain⟨x,y⟩:=h3 i hi;by_cases hij:i=j
  ·subst hij;rw[aN];constructor
   ·rw[Array.getElem?_setIfInBounds_ne (by omega),Array.getElem?_setIfInBounds_self_of_lt (by omega)]
   ·rw[Array.getElem?_setIfInBounds_self_of_lt (by simp;omega)]
  ·rw[bn hij];constructor
   ·rw[Array.getElem?_setIfInBounds_ne (by omega),Array.getElem?_setIfInBounds_ne (by omega)];exact x
   ·rw[Array.getElem?_setIfInBounds_ne (by omega),Array.getElem?_setIfInBounds_ne (by omega)];exact y
theorem tt {w W W':World} {g:Nat} (h:w.grownBy W (some g)) (hb:Below W.heap.size W W'):w.grownBy W' (some g):=
 ⟨hb.os.trans h.os,hb.tape.trans h.tape,hb.output.trans h.output,Nat.le_trans h.size hb.size,fun k hk hn=>(hb.block k (Nat.lt_of_lt_of_le hk h.size)).trans (h.block k hk hn)⟩
def IBx (W:World) (g:Nat) (a b:Nat):Prop:=W.heap[g]?=some (.cells #[fV a,fV b] 67 (0,0))
structure BTt (R W:World):Prop where
 hb:Below R.heap.size R W
theorem BTt.below {R W W':World} (m:BTt R W) (hb:Below W.heap.size W W'):BTt R W':=⟨m.hb.trans (hb.mono m.hb.size)⟩
theorem BTt.alloc {R W:World} (m:BTt R W) (o:Obj):BTt R (W.alloc o):=⟨m.hb.alloc m.hb.size o⟩
theorem BTt.drew {R W:World} (m:BTt R W):BTt R W.drew:=⟨m.hb.drew⟩
def QI (R W:World) (g:Nat) (x y:Nat):Prop:=IBx W g x y∧R.heap.size≤g
theorem QI.below {R W W':World} {g x y:Nat} (h:QI R W g x y) (hb:Below W.heap.size W W'):QI R W' g x y:=⟨aa h.1 hb,h.2⟩
theorem QI.drew {R W:World} {g x y:Nat} (h:QI R W g x y):QI R W.drew g x y:=h
theorem QI.new {R W:World} {x y:Nat} (m:BTt R W):QI R (W.alloc (.cells #[fV x,fV y] 67)) W.heap.size x y:=⟨af W _,m.hb.size⟩
theorem QI.same {R W:World} {g x y:Nat} (h:QI R W g x y) (u v:Nat):QI R ((W.setCell ⟨g,0,none⟩ (fV u)).setCell ⟨g,1,none⟩ (fV v)) g u v:=⟨aA h.1,h.2⟩
theorem BTt.set2 {R W:World} {g x y:Nat} (m:BTt R W) (z:QI R W g x y) (u v:Nat):BTt R ((W.setCell ⟨g,0,none⟩ (fV u)).setCell ⟨g,1,none⟩ (fV v)):=⟨(m.hb.setCell (by exact z.2) _).setCell (by exact z.2) _⟩
theorem BTt.cell {R W:World} (m:BTt R W) {b o:Nat} {v:Value} (h:R.cell? ⟨b,o,none⟩=some v):W.cell? ⟨b,o,none⟩=some v:=by
 rw[m.hb.cell (by exact bL h)];exact h
theorem BTt.cell4 {R W:World} (m:BTt R W) {b o b' o' b2 o2 b3 o3:Nat} {v v' v2 v3:Value} (h:R.cell? ⟨b,o,none⟩=some v∧R.cell? ⟨b',o',none⟩=some v'∧R.cell? ⟨b2,o2,none⟩=some v2∧R.cell? ⟨b3,o3,none⟩=some v3):W.cell? ⟨b,o,none⟩=some v∧W.cell? ⟨b',o',none⟩=some v'∧W.cell? ⟨b2,o2,none⟩=some v2∧W.cell? ⟨b3,o3,none⟩=some v3:=⟨m.cell h.1,m.cell h.2.1,m.cell h.2.2.1,m.cell h.2.2.2⟩
structure TkS (w0 w W:World) (g1 g2 m:Nat) (r br:Nat→Nat×Nat):Prop where
 hg:w.grownBy W (some g1)
 r1:bI W g1 m r
 r2:bI W g2 m br
 hb:Below w0.heap.size w0 W
 ne:g1≠g2
 ge:w0.heap.size≤g1
theorem TkS.below {w0 w W W':World} {g1 g2 m:Nat} {r br:Nat→Nat×Nat} (s:TkS w0 w W g1 g2 m r br) (hb:Below W.heap.size W W'):TkS w0 w W' g1 g2 m r br:=
 ⟨tt s.hg hb,s.r1.below hb,s.r2.below hb,s.hb.trans (hb.mono s.hb.size),s.ne,s.ge⟩
theorem TkS.set {w0 w W:World} {g1 g2 m:Nat} {r br:Nat→Nat×Nat} (s:TkS w0 w W g1 g2 m r br) {j:Nat} (hj:j<m) (a b:Nat):TkS w0 w ((W.setCell ⟨g1,j*2,none⟩ (fV a)).setCell ⟨g1,j*2+1,none⟩ (fV b)) g1 g2 m (upd r j (a,b)) br:=
 have h:=pQ (db W g1 (j*2) (fV a)) (db _ g1 (j*2+1) (fV b))
 ⟨pQ s.hg h,s.r1.set hj a b,s.r2.grown h (fun e=>s.ne e.symm),(s.hb.setCell (by exact s.ge) _).setCell (by exact s.ge) _,s.ne,s.ge⟩
end
section
open Go.RowKit Go.Extern Ieee
attribute [local go_sem] av
theorem E8 {a b c d:Nat×Nat} (h:lpX muX suX a b c=some d) (ha:ivW a):ivW d:=by
 unfold lpX at h;obtain⟨t,h1,h2⟩:=Option.bind_eq_some_iff.1 h;exact E4 ha (Ad h1) h2
theorem uC (A:Nat→Addr) (g1 g2 m c1 c2 k:Nat) (row br:Nat→Nat×Nat) (w0 w:World) (lo hi:Nat) (rq:Option (Nat×Nat)) (RES:Option (Nat→Nat×Nat))
  (s:TkS w0 w w g1 g2 m row br) (hkm:k<m) (hm:m≤100) (xl xh yl yh:Nat) (ex:row k=(xl,xh)) (ey:br k=(yl,yh))
  (hc:∀W,aw 91 #[.func (.func 94) #[] #[],gF xl xh,gF yl yh] W (.tuple #[fV lo,fV hi]))
  (hw:∀W,Below w0.heap.size w0 W→ax 159 #[fV lo,fV hi] W fun ev w'=>SvR A W rq ev w')
  (hl:∀W al ah bl_ bh cl ch,Below w0.heap.size w0 W→Iv al ah→Iv bl_ bh→Iv cl ch→ax 158 #[gF al ah,gF bl_ bh,gF cl ch] W fun ev w'=>SvR A W (lpX muX suX (al,ah) (bl_,bh) (cl,ch)) ev w')
  (hR0:rq=none→RES=none) (hR1:∀t,rq=some t→ivW t∧RES=jZ muX suX t br (m-(k+1)) (k+1) row) (i1:∀j,k≤j→j<m→ivW (row j)) (i2:∀j,k≤j→j<m→ivW (br j)):
  ax 157 #[.slice (some ⟨g1,0,none⟩) m c1,.slice (some ⟨g2,0,none⟩) m c2,iV (k:Int)] w fun e w'=>∃r',TkS w0 w w' g1 g2 m r' br∧(RES=some r'∧e= .returned .nilIface∧(∀j,k≤j→j<m→ivW (r' j))∨RES=none∧e= .returned (aL (A 8))):=by
 have HC:=hid hc;have HW:=hid hw;have HL:=hid hl;have HR0:=hid hR0;have HR1:=hid hR1;have I1:=hid i1;have I2:=hid i2;have SS:=hid s;have hg1l:=s.r1.lt;obtain⟨a1,a2,-,-⟩:=s.r1.cell hkm;obtain⟨b1,b2,-,-⟩:=s.r2.cell hkm;rw[ex] at a1 a2;rw[ey] at b1 b2;clear hc hw hl hR0 hR1 i1 i2 s ex ey;have hq:w.cell? ⟨g1,k*2,none⟩=some (fV xl)∧w.cell? ⟨g1,k*2+1,none⟩=some (fV xh)∧w.cell? ⟨g2,k*2,none⟩=some (fV yl)∧w.cell? ⟨g2,k*2+1,none⟩=some (fV yh):=⟨a1,a2,b1,b2⟩;go_enter Tryz.func157,Tryz.ntmps157;go_wp2_with fail
 go_cut [7,8] (fun s7 s8 wc=>∃gt tl th,s7= .pointer (some ⟨gt,0,none⟩)∧BTt w wc∧QI w wc gt tl th∧(rq=some (tl,th)∧s8= .nilIface∨rq=none∧s8= aL (A 8)))
 case first=>
  have m1:Hid (BTt w w):=⟨Below.refl _ _⟩;have iN:Hid (BTt w w.drew):=m1.out.drew
  go_region_held3 (fun W=>W.cell? ⟨g1,k*2,none⟩=some (.float .f64 xl)∧W.cell? ⟨g1,k*2+1,none⟩=some (.float .f64 xh)∧W.cell? ⟨g2,k*2,none⟩=some (.float .f64 yl)∧W.cell? ⟨g2,k*2+1,none⟩=some (.float .f64 yh)) (first|with_reducible exact iN.out.cell4 hq|with_reducible exact(iN.out.alloc _).cell4 hq|with_reducible exact(m1.out.alloc _).drew.cell4 hq|with_reducible exact(iN.out.set2 zf.out _ _).cell4 hq)
   (first
     |(go_at_call 91;with_reducible (refine (HC.out _).mono ?_);rintro e v0 ⟨rfl,hbk⟩
       try(have zf:Hid (QI w v0 _ _ _):=zf.out.below hbk)
       have iN:Hid (BTt w v0):=iN.out.below hbk;clear hbk)
     |(go_at_call 91;with_reducible (refine (HC.out _).mono ?_);rintro e v0 ⟨rfl,hbk⟩
       have zf:Hid (QI w v0 _ _ _):=(QI.new m1.out).drew.below hbk;have iN:Hid (BTt w v0):=(m1.out.alloc _).drew.below hbk;clear hbk)
     |(go_at_call 159;with_reducible (refine (HW.out _ ?_).mono ?_);(with_reducible exact SS.out.hb.trans (iN.out.hb.mono SS.out.hb.size));(intro e v1 hsv);(unfold SvR at hsv);(obtain⟨tl,th,v,rfl,hbk,hor⟩:=hsv)
       have HO:=hid hor
       try(have zf:Hid (QI w v1 _ _ _):=zf.out.below hbk;obtain⟨zc0,zc1,zc2,zc3⟩:=aj zf.out.1)
       have iN:Hid (BTt w v1):=iN.out.below hbk;clear hbk hor)
     |(go_at_call 159;with_reducible (refine (HW.out _ ?_).mono ?_);(with_reducible exact SS.out.hb.trans ((iN.out.alloc _).hb.mono SS.out.hb.size));(intro e v1 hsv);(unfold SvR at hsv);(obtain⟨tl,th,v,rfl,hbk,hor⟩:=hsv)
       have HO:=hid hor;have zf:Hid (QI w v1 _ _ _):=(QI.new iN.out).below hbk;obtain⟨zc0,zc1,zc2,zc3⟩:=aj zf.out.1;have iN:Hid (BTt w v1):=(iN.out.alloc _).below hbk;clear hbk hor))
  all_goals(go_wp2_with fail;go_meet;refine⟨_,_,_,rfl,?_,?_,HO.out⟩)
  all_goals first|with_reducible exact iN.out.set2 zf.out _ _|with_reducible exact zf.out.same _ _|with_reducible exact iN.out.alloc _|with_reducible exact QI.new iN.out
 case rest=>
  obtain⟨gt,tl,th,rfl,hB,hQ,hor⟩:=hcut;have SS:=hid (SS.out.below hB.hb);have BX:=hid hQ.1;have hgt:gt≠g1:=by have:=hQ.2;omega
  clear hB hQ HC HW hq a1 a2 b1 b2 hg1l;rcases hor with⟨e1,rfl⟩|⟨e1,rfl⟩
  ·obtain⟨it,er⟩:=HR1.out _ e1;have IT:Hid (Iv tl th):=it;have ER:=hid er;clear HR0 HR1 it er e1;go_wp2_with fail
   go_loopw [8,9] (fun _ x wr=>∃(j:Nat) (r:Nat→Nat×Nat),k+1≤j∧j≤m∧x=iV (j:Int)∧TkS w0 w wr g1 g2 m r br∧IBx wr gt tl th∧jZ muX suX (tl,th) br (m-j) j r=RES∧∀i,k≤i→i<m→ivW (r i)) (fun _ x _=>m-(intOf x).toNat)
   case atStart=>exact⟨k+1,row,Nat.le_refl _,hkm,by go_num,SS.out,BX.out,ER.out.symm,I1.out⟩
   case round=>
    obtain⟨j,r,hj1,hj2,rfl,hs,hbx,hres,hiv⟩:=hrel;have SS:=hid hs;have BX:=hid hbx;have RS:=hid hres;have IV:=hid hiv;clear hs hbx hres hiv ER I1;by_cases hjm:j<m
    ·obtain⟨a1,a2,a3,a4⟩:=SS.out.r1.cell hjm;obtain⟨b1,b2,-,-⟩:=SS.out.r2.cell hjm;obtain⟨t1,t2,-,-⟩:=aj BX.out;have ia:Hid (Iv (r j).1 (r j).2):=IV.out j (by omega) hjm;have ib:Hid (Iv (br j).1 (br j).2):=I2.out j (by omega) hjm
     have ET:Hid (jZ muX suX (tl,th) br (m-j) j r=(lpX muX suX (r j) (tl,th) (br j)).bind fun c=>jZ muX suX (tl,th) br (m-(j+1)) (j+1) (upd r j c)):=by
      show _=_
      rw[show m-j=(m-(j+1))+1 by omega];rfl
     have ep:∀x:Nat×Nat,x=(x.1,x.2):=fun x=>rfl
     rw[ep (r j),ep (br j)] at ET;generalize(r j).1=al at*;generalize(r j).2=ah at*;generalize(br j).1=bl_ at*;generalize(br j).2=bh at*;clear ep;have hq:wr.cell? ⟨g1,j*2,none⟩=some (fV al)∧wr.cell? ⟨g1,j*2+1,none⟩=some (fV ah)∧wr.cell? ⟨g2,j*2,none⟩=some (fV bl_)∧wr.cell? ⟨g2,j*2+1,none⟩=some (fV bh):=⟨a1,a2,b1,b2⟩;have hq2:wr.cell? ⟨gt,0,none⟩=some (fV tl)∧wr.cell? ⟨gt,1,none⟩=some (fV th):=⟨t1,t2⟩;go_wp2_with fail
     go_cut [8] (fun s8 wc=>∃ul uh,TkS w0 w wc g1 g2 m (upd r j (ul,uh)) br∧IBx wc gt tl th∧(lpX muX suX (al,ah) (tl,th) (bl_,bh)=some (ul,uh)∧s8= .nilIface∨lpX muX suX (al,ah) (tl,th) (bl_,bh)=none∧s8= aL (A 8)))
     case first=>
      have m1:Hid (BTt wr wr):=⟨Below.refl _ _⟩;have iN:Hid (BTt wr wr.drew):=m1.out.drew;have HLL:Hid (∀W,BTt wr W→ax 158 #[gF al ah,gF tl th,gF bl_ bh] W fun ev w'=>SvR A W (lpX muX suX (al,ah) (tl,th) (bl_,bh)) ev w'):=fun W hW=>HL.out W _ _ _ _ _ _ (SS.out.hb.trans (hW.hb.mono SS.out.hb.size)) ia.out IT.out ib.out
      go_region_with (first
       |(go_at_call 158;refine (HLL.out _ ?_).mono ?_;(exact iN.out);(intro e v0 hsv)
         (unfold SvR at hsv);(obtain⟨ul,uh,v,rfl,hbk,hor⟩:=hsv)
         have HO:=hid hor;have iN:Hid (BTt wr v0):=iN.out.below hbk;obtain⟨y1,y2,y3,y4⟩:=(SS.out.below iN.out.hb).r1.cell hjm;clear hbk hor))
      all_goals(go_wp2_with fail;go_meet;exact⟨ul,uh,(SS.out.below iN.out.hb).set hjm ul uh,aG (aG (aa BX.out iN.out.hb) hgt) hgt,HO.out⟩)
     case rest=>
      obtain⟨ul,uh,hs,hbx,hor⟩:=hcut;have SS:=hid hs;have BX:=hid hbx;clear hs hbx hq hq2 a1 a2 a3 a4 b1 b2 t1 t2;rcases hor with⟨e1,rfl⟩|⟨e1,rfl⟩
      ·have RS2:Hid (jZ muX suX (tl,th) br (m-(j+1)) (j+1) (upd r j (ul,uh))=RES):=by
        show _=_
        rw[←RS.out,ET.out,e1];rfl
       have IV2:Hid (∀i,k≤i→i<m→ivW (upd r j (ul,uh) i)):=by
        intro i a b;by_cases hij:i=j
        ·subst hij;rw[aN];exact E8 e1 ia.out
        ·rw[bn hij];exact IV.out i a b
       clear e1 RS ET IV ia ib IT HL I2;go_wp2;go_roundw
       case rel=>exact⟨j+1,_,by omega,by omega,by go_num,SS.out,BX.out,RS2.out,IV2.out⟩
       case measure=>simp[intOf];omega
      ·have RS2:Hid (RES=none):=by
        show _=_
        rw[←RS.out,ET.out,e1];rfl
       clear e1 RS ET IV ia ib IT HL I2;go_wp2
       go_ret
       exact⟨_,SS.out,.inr ⟨RS2.out,rfl⟩⟩
    ·have RS2:Hid (RES=some r):=by
      show _=_
      rw[←RS.out,show m-j=0 by omega];rfl
     clear RS HL I2 BX IT;go_wp2
     go_ret
     exact⟨r,SS.out,.inl ⟨RS2.out,rfl,IV.out⟩⟩
  ·have RS2:=hid (HR0.out e1);clear HR0 HR1 HL I2 BX I1 e1;go_wp2
   go_ret
   exact⟨row,SS.out,.inr ⟨RS2.out,rfl⟩⟩
theorem wI (A:Nat→Addr) (g1 g2 m c1 c2 k n:Nat) (row br:Nat→Nat×Nat) (w0 w:World) (hS:aE A w0) (s:TkS w0 w w g1 g2 m row br) (hkm:k<m) (hm:m≤100) (hmn:m=n+1) (i1:∀j,k≤j→j<m→ivW (row j)) (i2:∀j,k≤j→j<m→ivW (br j)) (hz:¬cn (br k) 0):
  ax 157 #[.slice (some ⟨g1,0,none⟩) m c1,.slice (some ⟨g2,0,none⟩) m c2,iV (k:Int)] w fun e w'=>∃r',TkS w0 w w' g1 g2 m r' br∧(gO muX suX quX n k row br=some r'∧e= .returned .nilIface∧(∀j,k≤j→j<m→ivW (r' j))∨gO muX suX quX n k row br=none∧e= .returned (aL (A 8))):=by
 have hh:holdsT (plT (br k).1) (plT (br k).2)=false:=by
  cases h:holdsT (plT (br k).1) (plT (br k).2)
  ·rfl
  ·exact absurd ((j9 _).1 h) hz
 obtain⟨lo,hi,p,q,f1,f2,hle,hw,hc⟩:=Fe (i1 k ae hkm) (i2 k ae hkm) hh;have hu:gO muX suX quX n k row br=(quX (row k) (br k)).bind fun t=>jZ muX suX t br (m-(k+1)) (k+1) row:=by unfold gO;rw[show n-k=m-(k+1) by omega]
 refine uC A g1 g2 m c1 c2 k row br w0 w lo hi (quX (row k) (br k)) _ s hkm hm _ _ _ _ rfl rfl hc (fun W hb=>?_) (fun W al ah bl_ bh cl ch hb ia ib ic=>lY A W (hS.below hb ae) ia ib ic) (fun h=>by rw[hu,h];rfl) (fun t h=>⟨?_,by rw[hu,h];rfl⟩) i1 i2
 ·have:quX (row k) (br k)=eS p q:=hw.symm;rw[this];exact jW A lo hi p q W (hS.below hb ae) f1 f2 hle
 ·exact((gC (f:=quoN) (a:=row k) (b:=br k) (g:=fun i j=>aF i / aF j) (mv (i1 k ae hkm) (i2 k ae hkm) hz)).1 t h).1
end
section
open Go.RowKit Go.Extern Ieee
attribute [local go_sem] av
structure Mat (W:World) (gr n:Nat) (gb cap:Nat→Nat) (M:Nat→Nat→Nat×Nat):Prop where
 blk:∃cur,W.heap[gr]?=some (.cells cur 86 (0,0))∧n≤cur.size∧∀i,i<n→cur[i]?=some (.slice (some ⟨gb i,0,none⟩) (n+1) (cap i))
 rows:∀i,i<n→bI W (gb i) (n+1) (M i)
 inj:∀i j,i<n→j<n→i≠j→gb i≠gb j
 caps:∀i,i<n→n+1≤cap i
theorem Mat.below {W W':World} {gr n:Nat} {gb cap:Nat→Nat} {M:Nat→Nat→Nat×Nat} (m:Mat W gr n gb cap M) (hb:Below W.heap.size W W'):Mat W' gr n gb cap M:=by
 obtain⟨cur,h1,h2⟩:=m.blk;exact⟨⟨cur,aa h1 hb,h2⟩,fun i hi=>(m.rows i hi).below hb,m.inj,m.caps⟩
theorem Mat.head {W:World} {gr n:Nat} {gb cap:Nat→Nat} {M:Nat→Nat→Nat×Nat} (m:Mat W gr n gb cap M) {i:Nat} (hi:i<n):W.cell? ⟨gr,i,none⟩=some (.slice (some ⟨gb i,0,none⟩) (n+1) (cap i))∧W.frozen? ⟨gr,i,none⟩=false:=by
 obtain⟨cur,h1,h2,h3⟩:=m.blk;refine⟨by rw[bf h1];exact h3 i hi,by simp[World.frozen?,h1]⟩
theorem pm {x y:Nat} (hx:NN x) (hy:NN y):FloatKind.f64.format.order x y=some (compare (x:Int) (y:Int)):=by
 have:=AE (d:=x) (f:=y) (by have:=hx.le;omega) (by have:=hx.le;omega) (by have:=hy.le;omega) (by have:=hy.le;omega);rw[hx.kw,hy.kw] at this;exact this
def atV (a:Option Nat):Int:=match a with|none=>-1|some i=>(i:Int)
theorem CV (A:Nat→Addr) (gr n cr k:Nat) (gb cap:Nat→Nat) (M:Nat→Nat→Nat×Nat) (w:World) (hS:aE A w) (hM:Mat w gr n gb cap M) (hk:k<n) (hn:n≤100) (iv:∀i j,k≤i→i<n→k≤j→j<n→ivW (M i j)):
  ax 156 #[.slice (some ⟨gr,0,none⟩) n cr,iV (k:Int)] w fun e w'=>Below w.heap.size w w'∧((∃a,pvX M n k=some a∧e= .returned (.tuple #[iV (a:Int),.nilIface]))∨pvX M n k=none∧e= .returned (.tuple #[iV 0,aL (A 8)])):=by
 have HM:=hid hM;have HS:=hid hS;have IV:=hid iv;clear hM hS iv;go_enter Tryz.func156,Tryz.ntmps156;go_wp2_with fail
 go_step3
 go_wp2_with fail
 go_step3
 go_wp2_with fail
 go_loopg [6,7,8] (n-k) (fun gg y6 y7 y8 wr=>∃(i best:Nat) (at_:Option Nat),k≤i∧i≤n∧gg=n-i∧y8=iV (i:Int)∧y6=fV best∧y7=iV (atV at_)∧NN best∧pvI M n k (n-i) i best at_=pvX M n k∧Below w.heap.size w wr)
 case atStart=>exact⟨k,0,none,Nat.le_refl _,by omega,rfl,rfl,rfl,rfl,⟨by decide⟩,rfl,Below.refl _ _⟩
 case round=>
  obtain⟨i,best,at_,hi1,hi2,hgk,rfl,rfl,rfl,hnb,hpv,hb⟩:=hrel;have HNB:=hid hnb;have HPV:=hid hpv;have HB:=hid hb;clear hnb hpv hb;by_cases hin:i<n
  ·have MM:=hid (HM.out.below HB.out);obtain⟨h1,-⟩:=MM.out.head hin;obtain⟨r1,r2,-,-⟩:=(MM.out.rows i hin).cell (j:=k) (by omega);have ik:Hid (Iv (M i k).1 (M i k).2):=IV.out i k hi1 hin ae hk;have HL:Hid (∀W,aw 177 #[.agg #[fV (M i k).1,fV (M i k).2]] W (fV (lsW (M i k)))):=fun W=>Cq ik.out W
   have hpl:=hid (Ag (a:=M i k) ik.out).1
   have EP:Hid (pvI M n k (n-i) i best at_=if lsW (M i k)=0 then pvI M n k (n-(i+1)) (i+1) best at_ else match shJ (M i) (lsW (M i k)) best (n-k) k 4607182418800017408 with|none=>pvI M n k (n-(i+1)) (i+1) best at_|some s=>pvI M n k (n-(i+1)) (i+1) s (some i)):=by
    show _=_
    rw[show n-i=(n-(i+1))+1 by omega];rfl
   generalize lsW (M i k)=least at*;generalize(M i k).1=al at*;generalize(M i k).2=ah at*;clear ik;go_wp2_with fail;refine (HL.out _).mono ?_;rintro e w1 ⟨rfl,hb1⟩;have HB1:=hid (HB.out.trans (hb1.mono HB.out.size));have MM:=hid (MM.out.below hb1);clear HB HL h1 r1 r2 hb1;have o0:FloatKind.f64.format.order least 0=some (compare (least:Int) ((0:Nat):Int)):=pm hpl.out.nn ⟨by decide⟩;by_cases hl0:least=0
   ·rw[cR (show(least:Int)=((0:Nat):Int) by omega)] at o0
    have EP2:Hid (pvI M n k (n-(i+1)) (i+1) best at_=pvX M n k):=by
     show _=_
     rw[←HPV.out,EP.out,if_pos hl0]
    clear EP HPV MM IV;go_wp2
    go_roundg (n-(i+1))
    case rel=>exact⟨i+1,best,at_,by omega,by omega,rfl,by go_num,rfl,rfl,HNB.out,EP2.out,HB1.out⟩
    case measure=>omega
   ·rw[bJ (show((0:Nat):Int)<(least:Int) by omega)] at o0
    have EP2:Hid ((match shJ (M i) least best (n-k) k 4607182418800017408 with|none=>pvI M n k (n-(i+1)) (i+1) best at_|some s=>pvI M n k (n-(i+1)) (i+1) s (some i))=pvX M n k):=by
     show _=_
     rw[←HPV.out,EP.out,if_neg hl0]
    clear EP HPV;obtain⟨h1,-⟩:=MM.out.head hin;have hcap:=MM.out.caps i hin;have IV2:Hid (∀j,j<n-k→ivW (M i (k+j))):=fun j hj=>IV.out i (k+j) hi1 hin (by omega) (by omega)
    have hk2:k≤n:=by omega
    have hk3:n≤cap i:=by omega
    clear IV;generalize hsh:shJ (M i) least best (n-k) k 4607182418800017408=SH at*;have HSH:=hid hsh;clear hsh;go_wp2_with fail
    go_loopg [10,39] (n-k) (fun g2 y10 y39 wy=>∃(j sh:Nat),j≤n-k∧g2=n-k-j∧y39=iV (j:Int)∧y10=fV sh∧NN sh∧shJ (M i) least best (n-k-j) (k+j) sh=SH∧Below w.heap.size w wy∧Mat wy gr n gb cap M)
    case atStart=>exact⟨0,_,by omega,by omega,rfl,rfl,⟨by decide⟩,HSH.out,HB1.out,MM.out⟩
    case round=>
     obtain⟨j,sh,hj1,hg2,rfl,rfl,hns,hse,hbw,hmw⟩:=hrel;have HNS:=hid hns;have HSE:=hid hse;have HBW:=hid hbw;have MM:=hid hmw;clear hns hse hbw hmw HSH HB1 h1;by_cases hj:j<n-k
     ·obtain⟨r1,r2,-,-⟩:=(MM.out.rows i hin).cell (j:=k+j) (by omega);rw[show(k+j)*2=k*2+j*2 by omega] at r1 r2;have ij:Hid (Iv (M i (k+j)).1 (M i (k+j)).2):=IV2.out j hj;have HG:Hid (∀W,aw 178 #[.agg #[fV (M i (k+j)).1,fV (M i (k+j)).2]] W (fV (gtW (M i (k+j))))):=fun W=>xC ij.out W
      have hgt:=hid (r7 (a:=M i (k+j)) ij.out).1
      have ES:Hid (shJ (M i) least best (n-k-j) (k+j) sh=if kw (fmin sh (dvW least (gtW (M i (k+j)))))≤kw best then none else shJ (M i) least best (n-k-(j+1)) (k+(j+1)) (fmin sh (dvW least (gtW (M i (k+j)))))):=by
       show _=_
       rw[show n-k-j=(n-k-(j+1))+1 by omega];rfl
      generalize gtW (M i (k+j))=gw at*;generalize(M i (k+j)).1=bl_ at*;generalize(M i (k+j)).2=bh at*;obtain⟨hdv,hdn⟩:=E9 hpl.out hl0 hgt.out;have hqq:∀w,(binOp .quo 65 (fV least) (fV gw)).run Tryz.prog w= .ok (fV (dvW least gw)) w:=fun w=>run_float_arith w .quo _ .f64 least gw _ hdv
      have mn:∀(w:World) (ts:Array TypeId) (t:TypeId),(Builtin.min_ ts t #[fV sh,fV (dvW least gw)]).run Tryz.prog w= .ok (fV (fmin sh (dvW least gw))) w:=fun w ts t=>bz w ts t HNS.out.fr hdn.fr
      have hfm:=hid (HNS.out.fmin hdn).2;have lr:=(MM.out.rows i hin).lt;generalize fmin sh (dvW least gw)=s2 at*;generalize dvW least gw=q2 at*;have ol:=pm hfm.out HNB.out;rw[hfm.out.kw,HNB.out.kw] at ES;clear ij;go_wp2_with fail;refine (HG.out _).mono ?_;rintro e w2 ⟨rfl,hb2⟩;have hbx:Below wr.heap.size wr w2:=((Below.refl _ wr).alloc ae _).trans (hb2.mono (by simp));have HBW:=hid (HBW.out.trans (hbx.mono HBW.out.size));have MM:=hid (MM.out.below hbx);clear hbx hb2 HG r1 r2 lr hdv hdn;by_cases hle:s2≤best
      ·have EN:Hid (pvI M n k (n-(i+1)) (i+1) best at_=pvX M n k):=by
        show _=_
        have:SH=none:=by rw[←HSE.out,ES.out,if_pos (by omega)]
        have h2:=EP2.out;rw[this] at h2;exact h2
       clear EP2 HSE ES MM IV2;rcases(show s2<best∨s2=best by omega) with h|h
       ·rw[bX (show(s2:Int)<(best:Int) by omega)] at ol;go_wp2
        go_roundg (n-(i+1))
        case rel=>exact⟨i+1,best,at_,by omega,by omega,rfl,by go_num,rfl,rfl,HNB.out,EN.out,HBW.out⟩
        case measure=>omega
       ·rw[cR (show(s2:Int)=(best:Int) by omega)] at ol;clear h hle;go_wp2
        go_roundg (n-(i+1))
        case rel=>exact⟨i+1,best,at_,by omega,by omega,rfl,by go_num,rfl,rfl,HNB.out,EN.out,HBW.out⟩
        case measure=>omega
      ·rw[bJ (show(best:Int)<(s2:Int) by omega)] at ol
       have EN:Hid (shJ (M i) least best (n-k-(j+1)) (k+(j+1)) s2=SH):=by
        show _=_
        rw[←HSE.out,ES.out,if_neg (by omega)]
       clear HSE ES;go_wp2
       go_roundg (n-k-(j+1))
       case rel=>exact⟨j+1,s2,by omega,rfl,by go_num,rfl,hfm.out,EN.out,HBW.out,MM.out⟩
       case measure=>omega
     ·have EN:Hid (pvI M n k (n-(i+1)) (i+1) sh (some i)=pvX M n k):=by
       show _=_
       have:SH=some sh:=by rw[←HSE.out,show n-k-j=0 by omega];rfl
       have h2:=EP2.out;rw[this] at h2;exact h2
      clear EP2 HSE MM IV2;go_wp2
      go_roundg (n-(i+1))
      case rel=>exact⟨i+1,sh,some i,by omega,by omega,rfl,by go_num,rfl,rfl,HNS.out,EN.out,HBW.out⟩
      case measure=>omega
  ·have EN:Hid (at_=pvX M n k):=by
    show _=_
    rw[←HPV.out,show n-i=0 by omega];rfl
   clear HPV HM IV
   cases at_ with
   |none=>
    have c8:wr.cell? ⟨8,0,none⟩=some (aL (A 8)):=(HS.out.below HB.out ae).cell 8 (by omega);have ha:atV none=-1:=rfl;rw[ha];go_wp2_with fail;go_region
    all_goals go_wp2
    all_goals(rw[Exit.noGoto_ret];refine bodyPost_ret (v:= .tuple #[iV 0,aL (A 8)]) (by simp[results,Tryz.results156,go_sem]) rfl ?_;exact⟨HB.out.drew,.inr ⟨EN.out.symm,rfl⟩⟩)
   |some a=>
    have ha:atV (some a)=(a:Int):=rfl;rw[ha];go_wp2;rw[Exit.noGoto_ret];refine bodyPost_ret (v:= .tuple #[iV (a:Int),.nilIface]) (by simp[results,Tryz.results156,go_sem]) rfl ?_;exact⟨HB.out,.inl ⟨a,EN.out.symm,rfl⟩⟩
end
section
open Go.RowKit Go.Extern Ieee
attribute [local go_sem] av
theorem Mat.ne {W:World} {gr n:Nat} {gb cap:Nat→Nat} {M:Nat→Nat→Nat×Nat} (m:Mat W gr n gb cap M) {i:Nat} (hi:i<n):gb i≠gr:=by
 intro e;obtain⟨cur,h1,_⟩:=m.blk;obtain⟨cur2,h2,_⟩:=m.rows i hi;rw[e,h1] at h2
 cases h2
theorem Mat.take {W W':World} {gr n:Nat} {gb cap:Nat→Nat} {M:Nat→Nat→Nat×Nat} (m:Mat W gr n gb cap M) {i:Nat} (hi:i<n) (hg:W.grownBy W' (some (gb i))) {r':Nat→Nat×Nat} (hr:bI W' (gb i) (n+1) r'):Mat W' gr n gb cap (upd M i r'):=by
 obtain⟨cur,h1,h2⟩:=m.blk;refine⟨⟨cur,(hg.block gr (ag h1) (fun e=>m.ne hi (by cases e;rfl))).trans h1,h2⟩,fun j hj=>?_,m.inj,m.caps⟩;by_cases hij:j=i
 ·subst hij;rw[aN];exact hr
 ·rw[bn hij];exact(m.rows j hj).grown hg (m.inj j i hj hi hij)
theorem Mat.swap {W:World} {gr n:Nat} {gb cap:Nat→Nat} {M:Nat→Nat→Nat×Nat} (m:Mat W gr n gb cap M) {k a:Nat} (hk:k<n) (ha:a<n):Mat ((W.setCell ⟨gr,k,none⟩ (.slice (some ⟨gb a,0,none⟩) (n+1) (cap a))).setCell ⟨gr,a,none⟩ (.slice (some ⟨gb k,0,none⟩) (n+1) (cap k))) gr n (swapR gb k a) (swapR cap k a) (swapR M k a):=by
 obtain⟨cur,h1,h2,h3⟩:=m.blk
 have hs:∀i,i<n→(i=k→swapR gb k a i=gb a)∧(i≠k→i=a→swapR gb k a i=gb k)∧(i≠k→i≠a→swapR gb k a i=gb i):=by
  intro i _;unfold swapR;refine⟨fun h=>by rw[if_pos h],fun h h'=>by rw[if_neg h,if_pos h'],fun h h'=>by rw[if_neg h,if_neg h']⟩
 have hg:∀i v,W.grownBy (W.setCell ⟨gr,i,none⟩ v) (some gr):=fun i v=>db W gr i v
 refine⟨⟨_,fL (fL h1 _ _) _ _,by simpa using h2,fun i hi=>?_⟩,fun i hi=>?_,fun i j hi hj hij=>?_,fun i hi=>?_⟩
 ·unfold swapR;by_cases ia:i=a
  ·subst ia;rw[Array.getElem?_setIfInBounds_self_of_lt (by simp;omega)];by_cases ik:i=k
   ·subst ik;rw[if_pos rfl,if_pos rfl]
   ·rw[if_neg ik,if_pos rfl,if_neg ik,if_pos rfl]
  ·rw[Array.getElem?_setIfInBounds_ne (fun e=>ia e.symm)];by_cases ik:i=k
   ·subst ik;rw[Array.getElem?_setIfInBounds_self_of_lt (by omega),if_pos rfl,if_pos rfl]
   ·rw[Array.getElem?_setIfInBounds_ne (fun e=>ik e.symm),if_neg ik,if_neg ia,if_neg ik,if_neg ia];exact h3 i hi
 ·have key:∀j,j<n→bI ((W.setCell ⟨gr,k,none⟩ (.slice (some ⟨gb a,0,none⟩) (n+1) (cap a))).setCell ⟨gr,a,none⟩ (.slice (some ⟨gb k,0,none⟩) (n+1) (cap k))) (gb j) (n+1) (M j):=fun j hj=>((m.rows j hj).grown (db W gr k _) (m.ne hj)).grown (db _ gr a _) (m.ne hj)
  unfold swapR;by_cases ik:i=k
  ·rw[if_pos ik,if_pos ik];exact key a ha
  ·rw[if_neg ik,if_neg ik];by_cases ia:i=a
   ·rw[if_pos ia,if_pos ia];exact key k hk
   ·rw[if_neg ia,if_neg ia];exact key i hi
 ·unfold swapR;by_cases ik:i=k<;>by_cases jk:j=k
  ·omega
  ·rw[if_pos ik,if_neg jk];by_cases ja:j=a
   ·rw[if_pos ja];exact m.inj a k ha hk (by omega)
   ·rw[if_neg ja];exact m.inj a j ha hj (by omega)
  ·rw[if_neg ik,if_pos jk];by_cases ia:i=a
   ·rw[if_pos ia];exact m.inj k a hk ha (by omega)
   ·rw[if_neg ia];exact m.inj i a hi ha (by omega)
  ·rw[if_neg ik,if_neg jk];by_cases ia:i=a<;>by_cases ja:j=a
   ·omega
   ·rw[if_pos ia,if_neg ja];exact m.inj k j hk hj (by omega)
   ·rw[if_neg ia,if_pos ja];exact m.inj i k hi hk (by omega)
   ·rw[if_neg ia,if_neg ja];exact m.inj i j hi hj hij
 ·unfold swapR;by_cases ik:i=k
  ·rw[if_pos ik];exact m.caps a ha
  ·rw[if_neg ik];by_cases ia:i=a
   ·rw[if_pos ia];exact m.caps k hk
   ·rw[if_neg ia];exact m.caps i hi
structure El (w0 W:World) (gr n:Nat) (gb cap:Nat→Nat) (M:Nat→Nat→Nat×Nat) (k:Nat):Prop where
 mat:Mat W gr n gb cap M
 hb:Below w0.heap.size w0 W
 gg:w0.heap.size≤gr
 gs:∀i,i<n→w0.heap.size≤gb i
 iv:∀y x,y<n→(y≤x∨k≤x)→x≤n→ivW (M y x)
 nz:∀y,y<k→y<n→¬cn (M y y) 0
theorem El.below {w0 W W':World} {gr n:Nat} {gb cap:Nat→Nat} {M:Nat→Nat→Nat×Nat} {k:Nat} (e:El w0 W gr n gb cap M k) (hb:Below W.heap.size W W'):El w0 W' gr n gb cap M k:=
 ⟨e.mat.below hb,e.hb.trans (hb.mono e.hb.size),e.gg,e.gs,e.iv,e.nz⟩
structure Em (w0 W:World) (gr n:Nat) (gb cap:Nat→Nat) (M:Nat→Nat→Nat×Nat) (k i:Nat):Prop where
 mat:Mat W gr n gb cap M
 hb:Below w0.heap.size w0 W
 gg:w0.heap.size≤gr
 gs:∀i,i<n→w0.heap.size≤gb i
 iv:∀y x,y<n→(y≤x∨k≤x)→x≤n→ivW (M y x)
 nz:∀y,y≤k→y<n→¬cn (M y y) 0
end
section
theorem yN:gu=pw 200:=by
 have h:=eU 200;rw[show((200:Nat):Int)=200 by rfl] at h;rw[h];unfold gu;rw[show(2^200:Nat)=1606938044258990275541962092341162602522202993782792835301376 by decide]
 rfl
theorem DK:gu≤pw 899:=by rw[yN];exact E7 (by omega)
theorem Gj:eps*pw 52=1:=by
 have h:=eU 52;rw[show((52:Nat):Int)=52 by rfl] at h;rw[h,show(2^52:Nat)=4503599627370496 by decide];unfold eps;grind
theorem C4:dI*gu=1:=by
 unfold dI gu;grind
theorem BL:pw (-900)≤eps*dI:=by
 have h1:=E7 (a:=-900) (b:=-252) (by omega);have h2:=bT (-252) 252;have h3:=bT 52 200;rw[show(-252:Int)+252=0 by rfl,pN] at h2;rw[show(52:Int)+200=252 by rfl,←yN] at h3;have h4:=Gj;have h5:=C4
 have h6:pw (-252)=eps*dI:=by
  have e1:pw (-252)=pw (-252)*((eps*pw 52)*(dI*gu)):=by rw[h4,h5];grind
  have e2:pw (-252)*((eps*pw 52)*(dI*gu))=(pw (-252)*pw 252)*(eps*dI):=by rw[h3];grind
  rw[e1,e2,←h2];grind
 rw[←h6];exact h1
theorem xV {n:Nat} (hn:n≤4) {M:Nat→Nat→Nat×Nat} {z:Nat→Nat×Nat} {R:Nat→Nat→Rat} {V:Rat} (hV:V=0∨16*d8≤V) (hV2:16*V≤fT)
  (oks:∀i j,i<n→j≤n→ivW (M i j)) (pts:∀i j,i<n→j≤n→loW (M i j)=R i j∧hiW (M i j)=R i j) (low:∀i,i<n→1 / 1073741824≤ab (R i i)) (high:∀i,i<n→ab (R i i)≤1073741824)
  (dom:∀i,i<n→sumR n (fun j=>ab (R i j))≤5 / 4*ab (R i i)) (rb:∀i,i<n→bd (ab (R i i)*V) (R i n)):
  ∃g,dC muX suX quX pvX n M z=some g∧∀i,i<n→ivW (g i)∧hiW (g i)-loW (g i)≤V / 2147483648:=
 yF near hn hV hV2 BL DK oks pts low high dom rb
end
end Go.Proofs.YtonhpkigoplmaaaGreatDoor
