import Derived.Test.YtonhpkigoplmaaaGreatDoorZ05
import Derived.Test.YtonhpkigoplmaaaGreatDoorZ02
set_option maxRecDepth 100000
set_option maxHeartbeats 40000000
namespace Go.Proofs.YtonhpkigoplmaaaGreatDoor
section
open Go.RowKit
def bK (s:Bool) (m:Nat) (e:Int):Nat×Bool:=
 if e+1075<123∨1923<e+1075∨(e+1075=1923∧4503599627370496<m) then(0,false)
 else(m-4503599627370496+(e+1075).toNat*4503599627370496+(if s then 9223372036854775808 else 0),true)
theorem xu {m:Nat} (h1:4503599627370496≤m) (h2:m<9007199254740992):
  ∃m0 m1 m2,digits m=[m0,m1,m2]∧m=m0+16777216*m1+281474976710656*m2∧m0<16777216∧m1<16777216∧m2<32:=by
 refine⟨m % 16777216,m / 16777216 % 16777216,m / 281474976710656,?_,by omega,by omega,by omega,by omega⟩
 have h:=ki [m % 16777216,m / 16777216 % 16777216,m / 281474976710656] (by
  intro d hd;simp at hd;rcases hd with rfl|rfl|rfl<;>omega) (by simp[bV];omega)
 have e:nval [m % 16777216,m / 16777216 % 16777216,m / 281474976710656]=m:=by simp only[nval];omega
 rw[e] at h;exact h
theorem oS {a b:Int} {x y:Bool} (h1:a=b) (h2:x=y):Ending.returned (.tuple #[uV a,.bool x])= .returned (.tuple #[uV b,.bool y]):=by rw[h1,h2]
theorem mO {m m0 m1 m2 z:Nat} {e:Int} (hm:m=m0+16777216*m1+281474976710656*m2) (h1:4503599627370496≤m) (he:0≤e+1075):
  (m0:Int)+m1*16777216+m2*16777216*16777216-4503599627370496+(e+1075)*4503599627370496+(z:Int)=((m-4503599627370496+(e+1075).toNat*4503599627370496+z:Nat):Int):=by
 have e1:((m-4503599627370496:Nat):Int)=(m:Int)-4503599627370496:=by omega
 have e2:=Int.toNat_of_nonneg he;have e3:(m:Int)=(m0:Int)+16777216*m1+281474976710656*m2:=by omega
 generalize hk:m-4503599627370496=k at*;generalize ht:(e+1075).toNat=t at*
 have e4:((k+t*4503599627370496+z:Nat):Int)=(k:Int)+(t:Int)*((4503599627370496:Nat):Int)+(z:Int):=by
  rw[Int.natCast_add,Int.natCast_add,Int.natCast_mul]
 rw[e4,e1,e2,e3];have e5:((4503599627370496:Nat):Int)=4503599627370496:=rfl;rw[e5];generalize(e+1075)*4503599627370496=q;omega
theorem Er {m m0 m1 m2:Nat} (hm:m=m0+16777216*m1+281474976710656*m2) (h1:4503599627370496≤m):
  (m0:Int)+m1*16777216+m2*16777216*16777216-4503599627370496+8660422083433463808=((m-4503599627370496+(848+1075:Int).toNat*4503599627370496+0:Nat):Int):=by
 have h:=mO (z:=0) (e:=848) hm h1 (by decide);rw[←h,show((848:Int)+1075)*4503599627370496=8660422083433463808 by decide,show((0:Nat):Int)=0 by rfl,Int.add_zero]
theorem C6 {m m0 m1 m2:Nat} (hm:m=m0+16777216*m1+281474976710656*m2) (h1:4503599627370496≤m):
  (m0:Int)+m1*16777216+m2*16777216*16777216-4503599627370496+8660422083433463808+9223372036854775808=((m-4503599627370496+(848+1075:Int).toNat*4503599627370496+9223372036854775808:Nat):Int):=by
 have h:=mO (z:=9223372036854775808) (e:=848) hm h1 (by decide);rw[←h,show((848:Int)+1075)*4503599627370496=8660422083433463808 by decide,show((9223372036854775808:Nat):Int)=9223372036854775808 by rfl]
theorem Du {m m0 m1 m2:Nat} {e:Int} (hm:m=m0+16777216*m1+281474976710656*m2) (h1:4503599627370496≤m) (he:0≤e+1075):
  (m0:Int)+m1*16777216+m2*16777216*16777216-4503599627370496+(e+1075)*4503599627370496=((m-4503599627370496+(e+1075:Int).toNat*4503599627370496+0:Nat):Int):=by
 have h:=mO (z:=0) hm h1 he;rw[←h,show((0:Nat):Int)=0 by rfl,Int.add_zero]
theorem Cg {m m0 m1 m2:Nat} {e:Int} (hm:m=m0+16777216*m1+281474976710656*m2) (h1:4503599627370496≤m) (he:0≤e+1075):
  (m0:Int)+m1*16777216+m2*16777216*16777216-4503599627370496+(e+1075)*4503599627370496+9223372036854775808=((m-4503599627370496+(e+1075:Int).toNat*4503599627370496+9223372036854775808:Nat):Int):=by
 have h:=mO (z:=9223372036854775808) hm h1 he;rw[←h,show((9223372036854775808:Nat):Int)=9223372036854775808 by rfl]
theorem cv (s:Bool) (m:Nat) (e:Int) (va:Value) (w:World) (ha:aq w va m) (h1:4503599627370496≤m) (h2:m<9007199254740992) (he1:-400000≤e) (he2:e≤400000):
  aw 163 #[.bool s,va,iV e] w (.tuple #[uV ((bK s m e).1:Int),.bool (bK s m e).2]):=by
 obtain⟨m0,m1,m2,hdg,hm,g0,g1,g2⟩:=xu h1 h2;obtain⟨ao,ca,rfl,hca,hcell⟩:=Dig.open ha;rw[hdg] at hca hcell⊢;obtain⟨b,off,rfl,hb,hc⟩:=hcell.resolve_left (by simp);have c0:=hc 0 (by simp);have c1:=hc 1 (by simp);have c2:=hc 2 (by simp);simp at c0 c1 c2;have HP:Hid (bK s m e=if e+1075<123∨1923<e+1075∨(e+1075=1923∧4503599627370496<m) then(0,false) else(m-4503599627370496+(e+1075).toNat*4503599627370496+(if s then 9223372036854775808 else 0),true)):=rfl;have HM:=hid hm;have hlow:4503599627370496≤(m0:Int)+16777216*m1+281474976710656*m2:=by omega
 clear hc hcell hdg ha hm;go_enter Tryz.func163,Tryz.ntmps163;go_wp2_with fail;go_quiet (fail);rcases(show e+1075<123∨1923<e+1075∨(e+1075=1923∧4503599627370496<m)∨(e+1075=1923∧¬4503599627370496<m)∨(123≤e+1075∧e+1075<1923) by omega) with g|g|⟨g,g'⟩|⟨g,g'⟩|⟨g,g'⟩
 ·have r:Hid (bK s m e=(0,false)):=by show _=_;rw[HP.out,if_pos (Or.inl g)]
  go_wp2;go_ret2;exact⟨by rw[r.out];exact oS rfl rfl,below_drewN aK _⟩
 ·have r:Hid (bK s m e=(0,false)):=by show _=_;rw[HP.out,if_pos (Or.inr (Or.inl g))]
  go_wp2;go_ret2;exact⟨by rw[r.out];exact oS rfl rfl,below_drewN aK _⟩
 ·have r:Hid (bK s m e=(0,false)):=by show _=_;rw[HP.out,if_pos (Or.inr (Or.inr ⟨g,g'⟩))]
  have hf:(0:Int)<(m0:Int)+m1*16777216+m2*16777216*16777216-4503599627370496:=by have:=HM.out;omega
  have ge:e=848:=by omega
  subst ge;clear g;go_wp2;go_ret2;exact⟨by rw[r.out];exact oS rfl rfl,below_drewN aK _⟩
 ·have r:Hid (bK s m e=(m-4503599627370496+(e+1075).toNat*4503599627370496+(if s then 9223372036854775808 else 0),true)):=by show _=_;rw[HP.out,if_neg (by omega)]
  have hf:(m0:Int)+m1*16777216+m2*16777216*16777216-4503599627370496≤0:=by have:=HM.out;omega
  have ge:e=848:=by omega
  subst ge;clear g
  cases s
  all_goals
   go_wp2;go_ret2;refine⟨?_,below_drewN aK _⟩;rw[r.out];refine oS ?_ rfl
   first|(rw[if_neg Bool.false_ne_true];exact Er HM.out h1)|(rw[if_pos trivial];exact C6 HM.out h1)
 ·have r:Hid (bK s m e=(m-4503599627370496+(e+1075).toNat*4503599627370496+(if s then 9223372036854775808 else 0),true)):=by show _=_;rw[HP.out,if_neg (by omega)]
  have t1:(e+1075==1923)=false:=by rw[beq_eq_false_iff_ne];omega
  cases s
  all_goals
   go_wp2;go_ret2;refine⟨?_,below_drewN aK _⟩;rw[r.out];refine oS ?_ rfl
   first|(rw[if_neg Bool.false_ne_true];exact Du HM.out h1 (by omega))|(rw[if_pos trivial];exact Cg HM.out h1 (by omega))
def fX (n:Nat) (up:Bool):Nat×Int:=
 if bl n≤53 then(n*2^(53-bl n),(bl n:Int)-53)
 else if up=true∧n % 2^(bl n-53)≠0 then
  (if n / 2^(bl n-53)+1=9007199254740992 then(4503599627370496,(bl n:Int)-52) else(n / 2^(bl n-53)+1,(bl n:Int)-53))
 else(n / 2^(bl n-53),(bl n:Int)-53)
def offS (s:Bool) (way:Int):Bool:=decide (0<way) &&!s||decide (way<0) && s
def roundN (s:Bool) (n:Nat) (e way:Int):Nat×Bool:=
 if n=0 then(0,true) else bK s (fX n (offS s way)).1 (e+(fX n (offS s way)).2)
theorem eK {n:Nat} (h:0<n):0<bl n:=(bt h).2.2
theorem sv {n:Nat}:bl n=0↔n=0:=by
 constructor
 ·intro h;rcases Nat.eq_zero_or_pos n with h0|h0
  ·exact h0
  ·have:=eK h0;omega
 ·rintro rfl;rfl
theorem rU {n k:Nat} (h1:2^(k-1)≤n) (h2:n<2^k) (hk:0<k):bl n=k:=by
 obtain⟨j,rfl⟩:∃j,k=j+1:=⟨k-1,by omega⟩;exact oY (by simpa using h1) h2
theorem p52:(2:Nat)^52=4503599627370496:=rfl
theorem p53:(2:Nat)^53=9007199254740992:=rfl
theorem jm {n:Nat} (h0:0<n) (h:bl n≤53):4503599627370496≤n*2^(53-bl n)∧n*2^(53-bl n)<9007199254740992:=by
 obtain⟨b1,b2,b3⟩:=bt h0;have e1:(2:Nat)^(bl n-1)*2^(53-bl n)=4503599627370496:=by rw[←Nat.pow_add,←p52];congr 1;omega
 have e2:(2:Nat)^(bl n)*2^(53-bl n)=9007199254740992:=by rw[←Nat.pow_add,←p53];congr 1;omega
 have h1:=Nat.mul_le_mul_right (2^(53-bl n)) b1;have h2:=Nat.mul_lt_mul_of_pos_right b2 (Nat.two_pow_pos (53-bl n));rw[e1] at h1;rw[e2] at h2;exact⟨h1,h2⟩
theorem iE {n:Nat} (h:53<bl n):4503599627370496≤n / 2^(bl n-53)∧n / 2^(bl n-53)<9007199254740992:=by
 have h0:0<n:=by
  rcases Nat.eq_zero_or_pos n with h0|h0
  ·subst h0;simp[i8] at h
  ·exact h0
 obtain⟨b1,b2,b3⟩:=bt h0;have e1:4503599627370496*(2:Nat)^(bl n-53)=2^(bl n-1):=by rw[←p52,←Nat.pow_add];congr 1;omega
 have e2:9007199254740992*(2:Nat)^(bl n-53)=2^(bl n):=by rw[←p53,←Nat.pow_add];congr 1;omega
 constructor
 ·exact(Nat.le_div_iff_mul_le (Nat.two_pow_pos _)).2 (by rw[e1];exact b1)
 ·exact(Nat.div_lt_iff_lt_mul (Nat.two_pow_pos _)).2 (by rw[e2];exact b2)
theorem eB {q:Nat} (h1:4503599627370496≤q) (h2:q<9007199254740992):bl q=53:=rU (by rw[show 53-1=52 by rfl,p52];exact h1) (by rw[p53];exact h2) (by decide)
theorem xz:bl 9007199254740992=54:=rU (by rw[show 54-1=53 by rfl,p53];exact Nat.le_refl _) (by decide) (by decide)
theorem x8 {n:Nat} (up:Bool) (h0:0<n):4503599627370496≤(fX n up).1∧(fX n up).1<9007199254740992:=by
 unfold fX;split
 ·exact jm h0 (by assumption)
 ·have:=iE (n:=n) (by omega);split
  ·split<;>simp<;>omega
  ·exact this
theorem eG (n:Nat):(digits n).length≤bl n / 24+1:=by
 rcases Nat.eq_zero_or_pos n with h0|h0
 ·subst h0;simp[cK]
 ·exact jh (bt h0).2.1
def mD (s:Bool) (n:Nat) (e way:Int) (w:World) (ev:Ending) (w':World):Prop:=
 ev= .returned (.tuple #[uV ((roundN s n e way).1:Int),.bool (roundN s n e way).2])∧Below w.heap.size w w'
theorem gE {s:Bool} {n m:Nat} {e e' way:Int} {w wm w2:World} (r:roundN s n e way=bK s m e') (h1:Below w.heap.size w wm) (h2:Below wm.heap.size wm w2):
  mD s n e way w (.returned (.tuple #[uV ((bK s m e').1:Int),.bool (bK s m e').2])) w2:=⟨by rw[r],h1.trans (h2.mono h1.size)⟩
theorem qm (x:Value) (s:Bool) (n:Nat) (e way:Int) (w:World) (hx:aM w x s n e) (hn:bl n≤53) (he1:-200000≤e) (he2:e≤200000):
  ax 115 #[x,iV way] w fun ev w'=>mD s n e way w ev w':=by
 obtain⟨ao,la,ca,rfl,hl1,hN⟩:=hx;have hlen:=eG n;have HL:=hid hl1;clear hl1;go_enter Tryz.func115,Tryz.ntmps115;go_wp2_with fail;have hW:Below w.heap.size w (w.alloc (.cells #[.bool s,.slice ao la ca,iV e] 92)):=aK.alloc ae _;refine(ck n _ _ (hN.below hW ae) (by omega)).mono ?_;rintro ev w1 ⟨rfl,rfl⟩;obtain⟨k00,k01,k02,k03,k04,k05⟩:=aB (af w (.cells #[.bool s,.slice ao la ca,iV e] 92));have HN:=hid (hN.below hW ae);have HW:=hid hW;clear hN hW;by_cases h0:n=0
 ·have r:Hid (roundN s n e way=(0,true)):=by show _=_;unfold roundN;rw[if_pos h0]
  have hb0:=sv.2 h0;have HR:Hid (mD s n e way w=fun ev w'=>ev= .returned (.tuple #[uV ((roundN s n e way).1:Int),.bool (roundN s n e way).2])∧Below w.heap.size w w'):=rfl;rw[hb0];go_wp2;go_ret2;rw[HR.out];exact⟨by rw[r.out];rfl,HW.out⟩
 ·have hb0:bl n≠0:=fun h=>h0 (sv.1 h)
  have r:Hid (roundN s n e way=bK s (n*2^(53-bl n)) (e+((bl n:Int)-53))):=by show _=_;unfold roundN fX;rw[if_neg h0,if_pos hn]
  have HB:Hid _:=jm (by omega) hn;have HLN:Hid ((digits n).length≤500000):=by show _≤_;omega
  have HR:Hid (mD s n e way w=fun ev w'=>ev= .returned (.tuple #[uV ((roundN s n e way).1:Int),.bool (roundN s n e way).2])∧Below w.heap.size w w'):=rfl;generalize bl n=B at*;clear hlen h0;have t0:((B:Int)==0)=false:=by rw[beq_eq_false_iff_ne];omega
  rcases(show B=53∨B<53 by omega) with hb|hb
  ·subst hb;clear t0;go_wp2_with fail;refine(cv s n e _ _ HN.out (by have:=HB.out;simp at this;omega) (by have:=HB.out;simp at this;omega) (by omega) (by omega)).mono ?_;rintro ev w2 ⟨rfl,hb2⟩;have HB2:=hid hb2;clear hb2;go_wp2;go_ret2;refine gE (m:=n) (e':=e) ?_ HW.out HB2.out;rw[r.out,Nat.sub_self,Nat.pow_zero,Nat.mul_one,show e+(((53:Nat):Int)-53)=e by omega]
  ·have hc:(53:Int)-(B:Int)=((53-B:Nat):Int):=by omega
   have t1:((B:Int)==54)=false:=by rw[beq_eq_false_iff_ne];omega
   have HQ:Hid (e+((B:Int)-53)=e-((53-B:Nat):Int)):=by show _=_;omega
   go_wp2_with fail;refine(iu n (53-B) _ _ HN.out HLN.out (by omega)).mono ?_;rintro ev w2 ⟨v2,rfl,hN2,hb2⟩;obtain⟨ao2,la2,ca2,rfl,HL2⟩:=hN2.slice2;have HB2:=hid hb2;have HN2:=hid hN2;obtain⟨j00,j01,j02,j03,j04,j05⟩:=aB (aa (af w (.cells #[.bool s,.slice ao la ca,iV e] 92)) hb2);clear hb2 hN2 k00 k01 k02 k03 k04 k05;go_wp2_with fail;refine(cv s (n*2^(53-B)) (e-((53-B:Nat):Int)) _ _ HN2.out HB.out.1 HB.out.2 (by omega) (by omega)).mono ?_;rintro ev w3 ⟨rfl,hb3⟩;have HB3:=hid hb3;clear hb3;go_wp2;go_ret2;refine gE (m:=n*2^(53-B)) (e':=e-((53-B:Nat):Int)) ?_ (HW.out.trans (HB2.out.mono HW.out.size)) HB3.out;rw[r.out,HQ.out]
theorem Aj (x:Value) (s:Bool) (n:Nat) (e way:Int) (w:World) (hx:aM w x s n e) (hw:way=1∨way=-1) (hn:53<bl n) (hn2:bl n≤100000) (he1:-200000≤e) (he2:e≤200000):
  ax 115 #[x,iV way] w fun ev w'=>mD s n e way w ev w':=by
 obtain⟨ao,la,ca,rfl,hl1,hN⟩:=hx;have hlen:=eG n;have HL:=hid hl1;have hW:Below w.heap.size w (w.alloc (.cells #[.bool s,.slice ao la ca,iV e] 92)):=aK.alloc ae _;have HN:=hid (hN.below hW ae);have HW:=hid hW;have HLB:Hid _:=iE hn;have HLN:Hid ((digits n).length≤500000):=by show _≤_;omega
 have H0:Hid (n≠0):=by show _≠_;rintro rfl;simp[i8] at hn
 have HR:Hid (∀o,offS s way=o→roundN s n e way=bK s (fX n o).1 (e+(fX n o).2)):=by
  intro o ho;subst ho;unfold roundN;rw[if_neg H0.out]
 have HM1:Hid (∀o,(o=true∧n % 2^(bl n-53)≠0)→n / 2^(bl n-53)+1=9007199254740992→fX n o=(4503599627370496,(bl n:Int)-52)):=by
  intro o h1 h2;unfold fX;rw[if_neg (by omega),if_pos h1,if_pos h2]
 have HM2:Hid (∀o,(o=true∧n % 2^(bl n-53)≠0)→¬n / 2^(bl n-53)+1=9007199254740992→fX n o=(n / 2^(bl n-53)+1,(bl n:Int)-53)):=by
  intro o h1 h2;unfold fX;rw[if_neg (by omega),if_pos h1,if_neg h2]
 have HM3:Hid (∀o,¬(o=true∧n % 2^(bl n-53)≠0)→fX n o=(n / 2^(bl n-53),(bl n:Int)-53)):=by
  intro o h1;unfold fX;rw[if_neg (by omega),if_neg h1]
 have HS:=hid (ck n (.slice ao la ca) _ HN.out (by omega));clear hl1 hN hW hlen;generalize bl n=B at*;obtain⟨k,rfl⟩:∃k,B=k+53:=⟨B-53,by omega⟩;simp only[Nat.add_sub_cancel] at HLB HM1 HM2 HM3;go_enter Tryz.func115,Tryz.ntmps115;go_wp2_with fail;refine Calls.mono HS.out ?_;rintro ev w1 ⟨rfl,rfl⟩;obtain⟨k00,k01,k02,k03,k04,k05⟩:=aB (af w (.cells #[.bool s,.slice ao la ca,iV e] 92));have t0:(((k+53:Nat):Int)==0)=false:=by rw[beq_eq_false_iff_ne];omega
 have t2:((k+53:Nat):Int)-53=(k:Int):=by omega
 go_wp2_with fail;refine(gn n k _ _ HN.out (by have:=HLN.out;omega) (by omega)).mono ?_;rintro ev w2 ⟨v2,rfl,hN2,hb2⟩;obtain⟨ao2,la2,ca2,rfl,HL2⟩:=hN2.slice2;have HB2:=hid (HW.out.trans (hb2.mono HW.out.size));have HN2:=hid hN2;obtain⟨j00,j01,j02,j03,j04,j05⟩:=aB (aa (af w (.cells #[.bool s,.slice ao la ca,iV e] 92)) hb2);have HBK:=hid (aa (af w (.cells #[.bool s,.slice ao la ca,iV e] 92)) hb2);have hlq:=eG (n / 2^k);rw[eB HLB.out.1 HLB.out.2] at hlq;have HLQ:=hid hlq;have HS2:=hid (eB HLB.out.1 HLB.out.2);clear hb2 hN2 hlq k00 k01 k02 k03 k04 k05 HS HN HW HLN H0 t0 t2;by_cases hz:n % 2^k=0
 ·rw[decide_eq_true hz]
  have FIN:Hid (roundN s n e way=bK s (n / 2^k) (e+(k:Int))):=by
   show _=_
   rw[HR.out _ rfl,HM3.out _ (fun h=>h.2 hz)];congr 1;omega
  clear HR HM1 HM2 HM3 hz;rcases hw with rfl|rfl<;>cases s
  all_goals
   go_wp2_with fail;refine(ck _ _ _ HN2.out (by have:=HLQ.out;omega)).mono ?_;rintro ev w3 ⟨rfl,rfl⟩;rw[HS2.out];go_wp2_with fail;refine(cv _ (n / 2^k) (e+(k:Int)) _ _ HN2.out HLB.out.1 HLB.out.2 (by omega) (by omega)).mono ?_;rintro ev w4 ⟨rfl,hb4⟩;have HB4:=hid hb4;clear hb4;go_wp2;go_ret2;exact gE FIN.out HB2.out HB4.out
 ·rw[decide_eq_false hz];have HZ:=hid hz;clear hz;rcases hw with rfl|rfl<;>cases s
  have FIN:Hid (n / 2^k+1=9007199254740992∧roundN false n e (1)=bK false 4503599627370496 (e+(k:Int)+1)∨¬n / 2^k+1=9007199254740992∧roundN false n e (1)=bK false (n / 2^k+1) (e+(k:Int))):=by
   show _∨_
   by_cases hq:n / 2^k+1=9007199254740992
   ·refine Or.inl ⟨hq,?_⟩;rw[HR.out true rfl,HM1.out _ ⟨rfl,HZ.out⟩ hq];congr 1;omega
   ·refine Or.inr ⟨hq,?_⟩;rw[HR.out true rfl,HM2.out _ ⟨rfl,HZ.out⟩ hq];congr 1;omega
  rotate_left
  ·have FIN:Hid (roundN true n e (1)=bK true (n / 2^k) (e+(k:Int))):=by
    show _=_
    rw[HR.out false rfl,HM3.out _ (fun h=>by simp at h)];congr 1;omega
   clear HR HM1 HM2 HM3 HZ;go_wp2_with fail;refine(ck _ _ _ HN2.out (by have:=HLQ.out;omega)).mono ?_;rintro ev w3 ⟨rfl,rfl⟩;rw[HS2.out];go_wp2_with fail;refine(cv _ (n / 2^k) (e+(k:Int)) _ _ HN2.out HLB.out.1 HLB.out.2 (by omega) (by omega)).mono ?_;rintro ev w4 ⟨rfl,hb4⟩;have HB4:=hid hb4;clear hb4;go_wp2;go_ret2;exact gE FIN.out HB2.out HB4.out
  ·have FIN:Hid (roundN false n e (-1)=bK false (n / 2^k) (e+(k:Int))):=by
    show _=_
    rw[HR.out false rfl,HM3.out _ (fun h=>by simp at h)];congr 1;omega
   clear HR HM1 HM2 HM3 HZ;go_wp2_with fail;refine(ck _ _ _ HN2.out (by have:=HLQ.out;omega)).mono ?_;rintro ev w3 ⟨rfl,rfl⟩;rw[HS2.out];go_wp2_with fail;refine(cv _ (n / 2^k) (e+(k:Int)) _ _ HN2.out HLB.out.1 HLB.out.2 (by omega) (by omega)).mono ?_;rintro ev w4 ⟨rfl,hb4⟩;have HB4:=hid hb4;clear hb4;go_wp2;go_ret2;exact gE FIN.out HB2.out HB4.out
  have FIN:Hid (n / 2^k+1=9007199254740992∧roundN true n e (-1)=bK true 4503599627370496 (e+(k:Int)+1)∨¬n / 2^k+1=9007199254740992∧roundN true n e (-1)=bK true (n / 2^k+1) (e+(k:Int))):=by
   show _∨_
   by_cases hq:n / 2^k+1=9007199254740992
   ·refine Or.inl ⟨hq,?_⟩;rw[HR.out true rfl,HM1.out _ ⟨rfl,HZ.out⟩ hq];congr 1;omega
   ·refine Or.inr ⟨hq,?_⟩;rw[HR.out true rfl,HM2.out _ ⟨rfl,HZ.out⟩ hq];congr 1;omega
  rotate_left
  all_goals
   clear HR HM1 HM2 HM3 HZ;go_wp2_with fail;refine(dG 1 _ (by omega)).mono ?_;rintro ev w3 ⟨v3,rfl,hN3,hb3⟩;obtain⟨ao3,la3,ca3,rfl,HL3⟩:=hN3.slice2;have HN3:=hid hN3;have HB3:=hid hb3;clear hb3 hN3;go_wp2_with fail;refine(fk (n / 2^k) 1 _ _ _ (HN2.out.below HB3.out ae) HN3.out (by have:=HLQ.out;omega) (by decide)).mono ?_;rintro ev w4 ⟨v4,rfl,hN4,hb4⟩;obtain⟨ao4,la4,ca4,rfl,HL4⟩:=hN4.slice2;have HBK4:=hid (aa (aa HBK.out HB3.out) hb4);have HN4:=hid hN4;have HB4:=hid ((HB2.out.trans (HB3.out.mono HB2.out.size)).trans (hb4.mono (HB2.out.trans (HB3.out.mono HB2.out.size)).size));obtain⟨i00,i01,i02,i03,i04,i05⟩:=aB HBK4.out;clear hb4 hN4 HBK HN3 HN2 HB3 HB2 j00 j01 j02 j03 j04 j05;go_wp2_with fail;rcases FIN.out with⟨hq,hr⟩|⟨hq,hr⟩
   ·have FIN2:=hid hr;clear FIN hr;rw[hq] at HN4;refine(ck 9007199254740992 _ _ HN4.out (by decide)).mono ?_;rintro ev w5 ⟨rfl,rfl⟩;rw[xz];go_wp2_with fail;refine(gn 9007199254740992 1 _ _ HN4.out (by decide) (by decide)).mono ?_;rintro ev w5 ⟨v5,rfl,hN5,hb5⟩;obtain⟨ao5,la5,ca5,rfl,HL5⟩:=hN5.slice2;have HN5:=hid hN5;obtain⟨l00,l01,l02,l03,l04,l05⟩:=aB (aa HBK4.out hb5);have HB5:=hid (HB4.out.trans (hb5.mono HB4.out.size));clear hb5 hN5 i00 i01 i02 i03 i04 i05;go_wp2_with fail;refine(cv _ 4503599627370496 (e+(k:Int)+1) _ _ HN5.out (by decide) (by decide) (by omega) (by omega)).mono ?_;rintro ev w6 ⟨rfl,hb6⟩;have HB6:=hid hb6;clear hb6;go_wp2;go_ret2;exact gE FIN2.out HB5.out HB6.out
   ·have FIN2:=hid hr;have q1:Hid (n / 2^k+1<9007199254740992):=by show _<_;have:=HLB.out.2;omega
    have q2:Hid (4503599627370496≤n / 2^k+1):=by show _≤_;have:=HLB.out.1;omega
    have hlq:=eG (n / 2^k+1);rw[eB q2.out q1.out] at hlq;clear FIN hr hq;refine(ck (n / 2^k+1) _ _ HN4.out (by omega)).mono ?_;clear hlq;rintro ev w5 ⟨rfl,rfl⟩;rw[eB q2.out q1.out];go_wp2_with fail;refine(cv _ (n / 2^k+1) (e+(k:Int)) _ _ HN4.out q2.out q1.out (by omega) (by omega)).mono ?_;rintro ev w6 ⟨rfl,hb6⟩;have HB6:=hid hb6;clear hb6;go_wp2;go_ret2;exact gE FIN2.out HB4.out HB6.out
theorem tR (x:Value) (s:Bool) (n:Nat) (e way:Int) (w:World) (hx:aM w x s n e) (hw:way=1∨way=-1) (hn:bl n≤100000) (he1:-200000≤e) (he2:e≤200000):
  ax 115 #[x,iV way] w fun ev w'=>mD s n e way w ev w':=by
 by_cases h:bl n≤53
 ·exact qm x s n e way w hx h he1 he2
 ·exact Aj x s n e way w hx hw (by omega) hn he1 he2
end
end Go.Proofs.YtonhpkigoplmaaaGreatDoor
