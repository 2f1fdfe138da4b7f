import Derived.Test.YtonhpkigoplmaaaGreatDoorZ06
import Derived.Test.YtonhpkigoplmaaaGreatDoorZ04
import Derived.Laws.FloatArith
set_option maxRecDepth 100000
set_option maxHeartbeats 40000000
namespace Go.Proofs.YtonhpkigoplmaaaGreatDoor
section
open Go.RowKit
def az (a b:ap):Nat×Nat×Nat:=
 if(roundN a.1 a.2.1 a.2.2 (-1)).2=true∧(roundN b.1 b.2.1 b.2.2 1).2=true then((roundN a.1 a.2.1 a.2.2 (-1)).1,(roundN b.1 b.2.1 b.2.2 1).1,0) else(0,0,3)
def cV (x:ap):Prop:=bl x.2.1≤100000∧-200000≤x.2.2∧x.2.2≤200000
def vm (w:World) (v:Value) (x:ap):Prop:=aM w v x.1 x.2.1 x.2.2
theorem eJ (u v:Value) (x y:ap) (w:World) (hx:vm w u x) (hy:vm w v y) (sx:cV x) (sy:cV y):
  aw 62 #[u,v] w (.tuple #[.agg #[uV ((az x y).1:Int),uV ((az x y).2.1:Int)],iV ((az x y).2.2:Int)]):=by
 obtain⟨s1,n1,e1⟩:=x;obtain⟨s2,n2,e2⟩:=y;obtain⟨ao1,la1,ca1,rfl,hl1,hN1⟩:=hx;obtain⟨ao2,la2,ca2,rfl,hl2,hN2⟩:=hy;simp only at hl1 hl2 hN1 hN2;have HL1:=hid hl1;have HL2:=hid hl2;have HN1:=hid hN1;have HN2:=hid hN2;have S1:=hid sx;have S2:=hid sy;have HR:Hid (az (s1,n1,e1) (s2,n2,e2)=if(roundN s1 n1 e1 (-1)).2=true∧(roundN s2 n2 e2 1).2=true then((roundN s1 n1 e1 (-1)).1,(roundN s2 n2 e2 1).1,0) else(0,0,3)):=rfl;clear hl1 hl2 hN1 hN2 sx sy;go_enter Tryz.func62,Tryz.ntmps62;go_wp2_with fail
 have hW:Below w.heap.size w (((w.alloc (.cells #[.bool s1,.slice ao1 la1 ca1,iV e1] 92)).alloc (.cells #[.bool s2,.slice ao2 la2 ca2,iV e2] 92)).alloc (.cells #[uV 0,uV 0] 28)):=
  (aJ.alloc (by simp) _).alloc (by simp;omega) _
 have B2:=af ((w.alloc (.cells #[.bool s1,.slice ao1 la1 ca1,iV e1] 92)).alloc (.cells #[.bool s2,.slice ao2 la2 ca2,iV e2] 92)) (.cells #[uV 0,uV 0] 28);have B0:=ai (ai (af w (.cells #[.bool s1,.slice ao1 la1 ca1,iV e1] 92)) (.cells #[.bool s2,.slice ao2 la2 ca2,iV e2] 92)) (.cells #[uV 0,uV 0] 28);have B1:=ai (af (w.alloc (.cells #[.bool s1,.slice ao1 la1 ca1,iV e1] 92)) (.cells #[.bool s2,.slice ao2 la2 ca2,iV e2] 92)) (.cells #[uV 0,uV 0] 28);simp only[World.size_alloc] at B1 B2;generalize(((w.alloc (.cells #[.bool s1,.slice ao1 la1 ca1,iV e1] 92)).alloc (.cells #[.bool s2,.slice ao2 la2 ca2,iV e2] 92)).alloc (.cells #[uV 0,uV 0] 28))=W at*;refine(tR _ s1 n1 e1 (-1) W ⟨_,_,_,rfl,HL1.out,HN1.out.below hW ae⟩ (Or.inr rfl) S1.out.1 S1.out.2.1 S1.out.2.2).mono ?_;rintro ev w1 ⟨rfl,hb1⟩;have B0:=aa B0 hb1;have B1:=aa B1 hb1;have B2:=aa B2 hb1;have hbA:=hW.trans (hb1.mono hW.size);clear hW hb1 HL1 HN1 S1;obtain⟨k10,k11,k12,k13,k14,k15⟩:=aB B1;generalize roundN s1 n1 e1 (-1)=r1 at*;obtain⟨a1,ok1⟩:=r1;have hz:=(Array.getElem?_eq_some_iff.1 B0).1;go_wp2_with fail;refine(tR _ s2 n2 e2 1 w1 ⟨_,_,_,rfl,HL2.out,HN2.out.below hbA ae⟩ (Or.inl rfl) S2.out.1 S2.out.2.1 S2.out.2.2).mono ?_;rintro ev w2 ⟨rfl,hb2⟩;have B2:=aa B2 hb2;have hbB:=hbA.trans (hb2.mono hbA.size);clear hbA hb2 HL2 HN2 S2 B0 B1 k10 k11 k12 k13 k14 k15 hz;generalize roundN s2 n2 e2 1=r2 at*;obtain⟨a2,ok2⟩:=r2;simp only at HR;obtain⟨j0,j1,j2,j3⟩:=aj B2;have hz:=(Array.getElem?_eq_some_iff.1 B2).1;have HB2:=hid B2;have HbB:=hid hbB;clear B2 hbB
 cases ok1
 ·have r:Hid (az (s1,n1,e1) (s2,n2,e2)=(0,0,3)):=by show _=_;rw[HR.out,if_neg (by simp)]
  clear HR;go_wp2;refine bodyPost_ret (v:= .tuple #[.agg #[uV 0,uV 0],iV 3]) (by simp[results,Tryz.results62,go_sem,j0,j1]) rfl ?_;rw[r.out];exact⟨rfl,(HbB.out.setCell (by simp;omega) _).setCell (by simp;omega) _⟩
 ·cases ok2
  ·have r:Hid (az (s1,n1,e1) (s2,n2,e2)=(0,0,3)):=by show _=_;rw[HR.out,if_neg (by simp)]
   clear HR;go_wp2;refine bodyPost_ret (v:= .tuple #[.agg #[uV 0,uV 0],iV 3]) (by simp[results,Tryz.results62,go_sem,j0,j1]) rfl ?_;rw[r.out];exact⟨rfl,(HbB.out.setCell (by simp;omega) _).setCell (by simp;omega) _⟩
  ·have r:Hid (az (s1,n1,e1) (s2,n2,e2)=(a1,a2,0)):=by show _=_;rw[HR.out,if_pos ⟨rfl,rfl⟩]
   clear HR;go_wp2;refine bodyPost_ret (v:= .tuple #[gU a1 a2,iV 0]) (by simp[results,Tryz.results62,go_sem,j0,j1]) rfl ?_;rw[r.out];exact⟨rfl,(HbB.out.setCell (by simp;omega) _).setCell (by simp;omega) _⟩
def aC (n:Int):ap:=(decide (n<0),n.natAbs,0)
theorem Bz (n:Int) (w:World) (h1:-9223372036854775808≤n) (h2:n<9223372036854775808):
  ax 78 #[iV n] w fun e w'=>∃x,e= .returned x∧vm w' x (aC n)∧Below w.heap.size w w':=by
 by_cases hn:0≤n
 ·obtain⟨m,rfl⟩:=Int.eq_ofNat_of_zero_le hn;have HE:Hid (aC (m:Int)=(false,m,0)):=by show _=_;unfold aC;rw[decide_eq_false (by omega)];rfl
  clear hn;go_enter Tryz.func78,Tryz.ntmps78;go_wp2_with fail;refine(dG m _ (by omega)).mono ?_;rintro ev w1 ⟨v1,rfl,hN1,hb1⟩;obtain⟨ao1,la1,ca1,rfl,HL1⟩:=hN1.slice2;have B0:=aa (af w _) hb1;have HbA:=hid (aJ.trans (hb1.mono (by simp)));obtain⟨k00,k01,k02,k03,k04,k05⟩:=aB B0;have HBX:=hid (aZ.of B0);have HN1:=hid hN1;clear B0 hb1 hN1;go_wp2;refine bodyPost_ret (v:= .agg #[.bool false,.slice ao1 la1 ca1,iV 0]) (by simp[results,Tryz.results78,go_sem,k00,k01,k02]) rfl ?_;refine⟨_,rfl,?_,?_⟩
  ·rw[HE.out];refine⟨_,_,_,rfl,HL1.out,HN1.out.keeps ?_⟩
   repeat refine aU.set ?_ (t:=92) (by(repeat refine aZ.set ?_);exact HBX.out) (by decide)
   exact aU.refl _
  ·repeat refine Below.setCell ?_ (by simp) _
   exact HbA.out
 ·obtain⟨m,hm⟩:∃m:Nat,-(n+1)=(m:Int):=⟨(-n-1).toNat,by omega⟩;have HE:Hid (aC n=(true,m+1,0)):=by show _=_;unfold aC;rw[decide_eq_true (by omega),show n.natAbs=m+1 by omega]
  have HM:Hid (m<9223372036854775808):=by show _<_;omega
  have hn:n<0:=by omega
  go_enter Tryz.func78,Tryz.ntmps78;go_wp2_with fail;refine(dG m _ HM.out).mono ?_;rintro ev w1 ⟨v1,rfl,hN1,hb1⟩;obtain⟨ao1,la1,ca1,rfl,HL1⟩:=hN1.slice2;have B0:=aa (af w _) hb1;have hbA:=aJ.trans (hb1.mono (by simp));have hlm:(digits m).length≤1000000:=by have:=jh (n:=m) (k:=63) (by have:=HM.out;omega);omega
  have HLM:=hid hlm;have HN1:=hid hN1;have HB0:=hid B0;have HbA:=hid hbA;clear B0 hb1 hN1 hbA hlm;go_wp2_with fail;refine(dG 1 _ (by omega)).mono ?_;rintro ev w2 ⟨v2,rfl,hN2,hb2⟩;obtain⟨ao2,la2,ca2,rfl,HL2⟩:=hN2.slice2;have HN2:=hid hN2;have HBa:=hid hb2;clear hb2 hN2;go_wp2_with fail;refine(fk m 1 _ _ _ (HN1.out.below HBa.out ae) HN2.out HLM.out (by decide)).mono ?_;rintro ev w3 ⟨v3,rfl,hN3,hb3⟩;obtain⟨ao3,la3,ca3,rfl,HL3⟩:=hN3.slice2;have B3:=aa (aa HB0.out HBa.out) hb3;have HbB:=hid ((HbA.out.trans (HBa.out.mono HbA.out.size)).trans (hb3.mono (HbA.out.trans (HBa.out.mono HbA.out.size)).size));obtain⟨k00,k01,k02,k03,k04,k05⟩:=aB B3;have HBX:=hid (aZ.of B3);have HN3:=hid hN3;clear B3 hb3 hN3 HB0;go_wp2;refine bodyPost_ret (v:= .agg #[.bool true,.slice ao3 la3 ca3,iV 0]) (by simp[results,Tryz.results78,go_sem,k00,k01,k02]) rfl ?_;refine⟨_,rfl,?_,?_⟩
  ·rw[HE.out];refine⟨_,_,_,rfl,HL3.out,HN3.out.keeps ?_⟩
   repeat refine aU.set ?_ (t:=92) (by(repeat refine aZ.set ?_);exact HBX.out) (by decide)
   exact aU.refl _
  ·repeat refine Below.setCell ?_ (by simp) _
   exact HbB.out
def bi (k x:Int):Nat×Nat×Nat:=
 if k=0∨k=2 then az (aC x) (aC x)
 else if k=1∨k=4 then az (aC (wrap32 x)) (aC (wrap32 x))
 else if k=3∨k=5 then
  (if(au (x % 18446744073709551616).toNat).isSome=true then az ((au (x % 18446744073709551616).toNat).getD (false,0,0)) ((au (x % 18446744073709551616).toNat).getD (false,0,0)) else(0,0,1))
 else(0,0,0)
theorem bQ {n k:Nat} (h:n<2^k):bl n≤k:=by
 rcases Nat.eq_zero_or_pos n with h0|h0
 ·subst h0;rw[i8];omega
 ·obtain⟨b1,b2,b3⟩:=bt h0;have:=(Nat.pow_lt_pow_iff_right (by decide:1<2)).1 (Nat.lt_of_le_of_lt b1 h);omega
theorem pR {n:Int} (h1:-9223372036854775808≤n) (h2:n<9223372036854775808):cV (aC n):=by
 refine⟨?_,by simp[aC],by simp[aC]⟩;have:=bQ (n:=n.natAbs) (k:=64) (by omega);simp only[aC];omega
theorem xX (b:Nat):cV ((au b).getD (false,0,0)):=by
 unfold au;split
 ·simp[cV,i8]
 ·split
  ·simp[cV,i8]
  ·simp only[Option.getD_some,cV];have:=bQ (n:=b % 4503599627370496+4503599627370496) (k:=54) (by omega);omega
theorem mG (k x y:Int) (w:World) (hk:(k=0∨k=2)∧y=x∨(k=1∨k=4)∧y=wrap32 x) (h1:-9223372036854775808≤x) (h2:x<9223372036854775808):
  aw 33 #[iV k,iV x] w (.tuple #[.agg #[uV ((az (aC y) (aC y)).1:Int),uV ((az (aC y) (aC y)).2.1:Int)],iV ((az (aC y) (aC y)).2.2:Int)]):=by
 have hy:-9223372036854775808≤y∧y<9223372036854775808:=by
  rcases hk with⟨-,rfl⟩|⟨-,rfl⟩
  ·exact⟨h1,h2⟩
  ·unfold wrap32;omega
 have HY:=hid hy;have HX:Hid (-9223372036854775808≤x∧x<9223372036854775808):=⟨h1,h2⟩;have hwy:wrap64 y=y:=by unfold wrap64;omega
 have HWY:=hid hwy;clear hy h1 h2 hwy;rcases hk with⟨hk|hk,hyx⟩|⟨hk|hk,hyx⟩
 all_goals
  subst hk;have HYX:=hid hyx;clear hyx;go_enter Tryz.func33,Tryz.ntmps33;go_wp2_with fail
  try rw[←HYX.out]
  try rw[HWY.out]
  refine(Bz y _ HY.out.1 HY.out.2).mono ?_;rintro ev w1 ⟨x1,rfl,hX1,hb1⟩;have hA:=aJ.trans (hb1.mono (by simp));have HB0:=hid (aa (af w _) hb1);obtain⟨ao1,la1,ca1,rfl,hl1,hN1⟩:=hX1;have HX1:Hid (la1=(digits (aC y).2.1).length∧aq w1 (.slice ao1 la1 ca1) (aC y).2.1):=⟨hl1,hN1⟩;have HA:=hid hA;clear hA hb1 hl1 hN1;go_wp2_with fail;have hAl:Below w1.heap.size w1 (w1.alloc (.cells #[.bool (aC y).1,.slice ao1 la1 ca1,iV (aC y).2.2] 92)):=aK.alloc ae _;have HNT:Hid (vm (w1.alloc (.cells #[.bool (aC y).1,.slice ao1 la1 ca1,iV (aC y).2.2] 92)) (.agg #[.bool (aC y).1,.slice ao1 la1 ca1,iV (aC y).2.2]) (aC y)):=⟨_,_,_,rfl,HX1.out.1,HX1.out.2.below hAl ae⟩;refine(eJ _ _ (aC y) (aC y) _ HNT.out HNT.out (pR HY.out.1 HY.out.2) (pR HY.out.1 HY.out.2)).mono ?_;rintro ev w2 ⟨rfl,hb2⟩;have HB2:=hid ((HA.out.trans (hAl.mono HA.out.size)).trans (hb2.mono (HA.out.trans (hAl.mono HA.out.size)).size));obtain⟨j0,j1,j2,j3⟩:=aj (aa (aa HB0.out hAl) hb2);clear hb2 hAl HNT HA HX1 HB0;go_wp2;refine bodyPost_ret (v:= .tuple #[.agg #[uV ((az (aC y) (aC y)).1:Int),uV ((az (aC y) (aC y)).2.1:Int)],iV ((az (aC y) (aC y)).2.2:Int)]) (by simp[results,Tryz.results33,go_sem,j0,j1]) rfl ?_;exact⟨rfl,(HB2.out.setCell (by simp) _).setCell (by simp) _⟩
theorem sP (k x:Int) (w:World) (hk:k=3∨k=5):
  aw 33 #[iV k,iV x] w (.tuple #[.agg #[uV ((bi k x).1:Int),uV ((bi k x).2.1:Int)],iV ((bi k x).2.2:Int)]):=by
 have HRE:Hid (bi k x=if(au (x % 18446744073709551616).toNat).isSome=true then az ((au (x % 18446744073709551616).toNat).getD (false,0,0)) ((au (x % 18446744073709551616).toNat).getD (false,0,0)) else(0,0,1)):=by
  show _=_
  unfold bi;rw[if_neg (by omega),if_neg (by omega),if_pos hk]
 have HX:Hid (IntKind.u64.wrap x=(((x % 18446744073709551616).toNat:Nat):Int)):=by
  show _=_
  rw[show IntKind.u64.wrap x=x % 18446744073709551616 by unfold IntKind.wrap;rw[if_neg (by simp[IntKind.signed])];rfl];omega
 have HB:Hid ((x % 18446744073709551616).toNat<18446744073709551616):=by show _<_;omega
 generalize(x % 18446744073709551616).toNat=b at*;obtain⟨R,hR⟩:∃R,bi k x=R:=⟨_,rfl⟩;rw[hR] at HRE⊢;clear hR;rcases hk with rfl|rfl
 all_goals
  go_enter Tryz.func33,Tryz.ntmps33;go_wp2_with fail;rw[HX.out];refine(gv b _ HB.out).mono ?_;rintro e w1 ⟨x1,rfl,hX1,hb1⟩;have hA:=aJ.trans (hb1.mono (by simp));have B0:=aa (af w _) hb1;have hsm:=xX b;generalize(au b).getD (false,0,0)=X1 at*;generalize(au b).isSome=ok1 at*;obtain⟨s1,n1,e1⟩:=X1;obtain⟨ao1,la1,ca1,rfl,hl1,hN1⟩:=hX1;simp only at hl1 hN1;have HX1:Hid (la1=(digits n1).length∧aq w1 (.slice ao1 la1 ca1) n1):=⟨hl1,hN1⟩;have HSM:=hid hsm;have HA:=hid hA;obtain⟨j0,j1,j2,j3⟩:=aj B0;have HB0:=hid B0;have hz:=(Array.getElem?_eq_some_iff.1 B0).1;clear hA hb1 hl1 hN1 hsm B0
  cases ok1
  ·have r:Hid (R=(0,0,1)):=by show _=_;rw[HRE.out,if_neg (by simp)]
   clear HRE;go_wp2;obtain⟨c10,c11,-,-⟩:=aj (ai (aA (a:=uV 0) (b:=uV 0) HB0.out) (.cells #[.bool s1,.slice ao1 la1 ca1,iV e1] 92));refine bodyPost_ret (v:= .tuple #[.agg #[uV 0,uV 0],iV 1]) (by simp[results,Tryz.results33,go_sem,c10,c11]) rfl ?_;rw[r.out];exact⟨rfl,((HA.out.setCell (by simp) _).setCell (by simp) _).alloc (by have:=HA.out.size;simpa using this) _⟩
  ·have r:Hid (R=az (s1,n1,e1) (s1,n1,e1)):=by show _=_;rw[HRE.out,if_pos rfl]
   clear HRE;go_wp2_with fail;have hAl:Below w1.heap.size w1 (w1.alloc (.cells #[.bool s1,.slice ao1 la1 ca1,iV e1] 92)):=aK.alloc ae _;have HNT:Hid (vm (w1.alloc (.cells #[.bool s1,.slice ao1 la1 ca1,iV e1] 92)) (.agg #[.bool s1,.slice ao1 la1 ca1,iV e1]) (s1,n1,e1)):=⟨_,_,_,rfl,HX1.out.1,HX1.out.2.below hAl ae⟩;refine(eJ _ _ (s1,n1,e1) (s1,n1,e1) _ HNT.out HNT.out HSM.out HSM.out).mono ?_;rintro ev w2 ⟨rfl,hb2⟩;have HB2:=hid ((HA.out.trans (hAl.mono HA.out.size)).trans (hb2.mono (HA.out.trans (hAl.mono HA.out.size)).size));clear j0 j1 j2 j3;obtain⟨j0,j1,j2,j3⟩:=aj (aa (aa HB0.out hAl) hb2);clear hb2 hAl HNT HA HX1 HB0 hz;go_wp2;refine bodyPost_ret (v:= .tuple #[.agg #[uV ((az (s1,n1,e1) (s1,n1,e1)).1:Int),uV ((az (s1,n1,e1) (s1,n1,e1)).2.1:Int)],iV ((az (s1,n1,e1) (s1,n1,e1)).2.2:Int)]) (by simp[results,Tryz.results33,go_sem,j0,j1]) rfl ?_;rw[r.out];exact⟨rfl,(HB2.out.setCell (by simp) _).setCell (by simp) _⟩
theorem uU (k x:Int) (w:World) (hk:k≠0∧k≠1∧k≠2∧k≠3∧k≠4∧k≠5):
  aw 33 #[iV k,iV x] w (.tuple #[.agg #[uV 0,uV 0],iV 0]):=by
 obtain⟨h0,h1,h2,h3,h4,h5⟩:=hk;have t0:(k==0)=false:=by rw[beq_eq_false_iff_ne];exact h0
 have t1:(k==1)=false:=by rw[beq_eq_false_iff_ne];exact h1
 have t2:(k==2)=false:=by rw[beq_eq_false_iff_ne];exact h2
 have t3:(k==3)=false:=by rw[beq_eq_false_iff_ne];exact h3
 have t4:(k==4)=false:=by rw[beq_eq_false_iff_ne];exact h4
 have t5:(k==5)=false:=by rw[beq_eq_false_iff_ne];exact h5
 clear h0 h1 h2 h3 h4 h5;go_enter Tryz.func33,Tryz.ntmps33;go_wp2;refine bodyPost_ret (v:= .tuple #[.agg #[uV 0,uV 0],iV 0]) (by simp[results,Tryz.results33,go_sem]) rfl ?_;exact⟨rfl,by(repeat refine Below.setCell ?_ (by simp) _);exact aK.alloc ae _⟩
theorem xd (k x:Int) (w:World) (h1:-9223372036854775808≤x) (h2:x<9223372036854775808):
  aw 33 #[iV k,iV x] w (.tuple #[.agg #[uV ((bi k x).1:Int),uV ((bi k x).2.1:Int)],iV ((bi k x).2.2:Int)]):=by
 by_cases a:k=0∨k=2
 ·rw[show bi k x=az (aC x) (aC x) by unfold bi;rw[if_pos a]];exact mG k x x w (Or.inl ⟨a,rfl⟩) h1 h2
 ·by_cases b:k=1∨k=4
  ·rw[show bi k x=az (aC (wrap32 x)) (aC (wrap32 x)) by unfold bi;rw[if_neg a,if_pos b]];exact mG k x _ w (Or.inr ⟨b,rfl⟩) h1 h2
  ·by_cases c:k=3∨k=5
   ·exact sP k x w c
   ·rw[show bi k x=(0,0,0) by unfold bi;rw[if_neg a,if_neg b,if_neg c]];exact uU k x w (by omega)
def jp (s:Bool) (r:Int):Nat×Bool:=if 553942754166571008≤r∧r≤8660422083433463808 then(r.toNat+(if s then 9223372036854775808 else 0),true) else(0,false)
theorem hU (s:Bool) {m:Nat} {e:Int} (h1:4503599627370496≤m) (h2:m<9007199254740992):bK s m e=jp s ((e+1074)*4503599627370496+m):=by
 unfold bK jp;by_cases h:e+1075<123∨1923<e+1075∨(e+1075=1923∧4503599627370496<m)
 ·rw[if_pos h,if_neg (by omega)]
 ·have hc:553942754166571008≤(e+1074)*4503599627370496+(m:Int)∧(e+1074)*4503599627370496+(m:Int)≤8660422083433463808:=by omega
  rw[if_neg h,if_pos hc];have:m-4503599627370496+(e+1075).toNat*4503599627370496=((e+1074)*4503599627370496+(m:Int)).toNat:=by omega
  rw[this]
def mf (n:Nat):Nat:=if bl n≤53 then n*2^(53-bl n) else n / 2^(bl n-53)
def aP (n:Nat):Bool:=decide (53<bl n∧n % 2^(bl n-53)≠0)
def rung (n:Nat) (e:Int):Int:=(e+bl n+1021)*4503599627370496+mf n
theorem b9 {n:Nat} (h0:0<n):4503599627370496≤mf n∧mf n<9007199254740992:=by
 unfold mf;split
 ·exact jm h0 (by assumption)
 ·exact iE (by omega)
theorem mi (s:Bool) {n:Nat} (e way:Int) (h0:n≠0):roundN s n e way=jp s (rung n e+if offS s way && aP n then 1 else 0):=by
 have hb:=x8 (offS s way) (Nat.pos_of_ne_zero h0);unfold roundN;rw[if_neg h0,hU s hb.1 hb.2]
 congr 1
 generalize offS s way=o;unfold rung aP mf fX;by_cases h:bl n≤53
 ·simp only[h,if_true,show¬53<bl n by omega,false_and,decide_false,Bool.and_false,Bool.false_eq_true,if_false];omega
 ·simp only[h,if_false];by_cases hz:n % 2^(bl n-53)=0
  ·simp only[hz,ne_eq,not_true_eq_false,and_false,if_false,decide_false,Bool.and_false,Bool.false_eq_true];omega
  ·simp only[hz,ne_eq,not_false_eq_true,and_true,show 53<bl n by omega,decide_true,Bool.and_true]
   cases o
   ·simp only[Bool.false_eq_true,if_false];omega
   ·simp only[if_true];split<;>simp only<;>omega
def nup (n:Nat):Bool:=decide (53<bl n) &&(decide (2^(bl n-53)<2*(n % 2^(bl n-53)))||(2^(bl n-53)==2*(n % 2^(bl n-53)) &&(n / 2^(bl n-53)) % 2==1))
theorem kQ {n:Nat} (h:n≠0):bl n=n.log2+1:=by unfold bl;rw[if_neg h]
theorem eX (s:Bool) {n:Nat} {e:Int} (h0:n≠0) (h1:-1021≤e+bl n) (h2:e+bl n≤1023):
  Ieee.double.nearest s n e=(rung n e+if nup n then 1 else 0).toNat+(if s then 9223372036854775808 else 0):=by
 have hb:=b9 (Nat.pos_of_ne_zero h0);have hl:=kQ h0;have hlp:Ieee.double.leastPlace=-1074:=by decide
 have hfb:Ieee.double.fractionBits=52:=rfl;have hbi:Ieee.double.binade=4503599627370496:=by decide
 have hin:Ieee.double.infRung=9218868437227405312:=by decide
 have hsw:Ieee.double.signWeight=9223372036854775808:=by decide
 unfold Ieee.Format.nearest;rw[if_neg h0];simp only[hlp,hfb,hbi,hin];have hlast:max (e+(n.log2:Int)-((52:Nat):Int)) (-1074)=e+bl n-53:=by omega
 rw[hlast]
 have hcut:Ieee.Toward.even.cut s (n<<<(e-(e+(bl n:Int)-53)).toNat) (e+(bl n:Int)-53-e).toNat=mf n+(if nup n then 1 else 0):=by
  rw[show(e-(e+(bl n:Int)-53)).toNat=53-bl n by omega,show(e+(bl n:Int)-53-e).toNat=bl n-53 by omega];unfold Ieee.Toward.cut;by_cases h:bl n≤53
  ·have:bl n-53=0:=by omega
   simp only[this,Nat.zero_min,Nat.shiftLeft_zero,Nat.div_one,Nat.mod_one];unfold nup mf;rw[if_pos h];simp[show¬53<bl n by omega,Nat.shiftLeft_eq]
  ·have e1:53-bl n=0:=by omega
   have e2:min (bl n-53) (n.log2+2)=bl n-53:=by omega
   simp only[e1,Nat.shiftLeft_zero,e2,Nat.one_shiftLeft];unfold nup mf;rw[if_neg h];rw[decide_eq_true (show 53<bl n by omega),Bool.true_and];generalize(decide (2^(bl n-53)<2*(n % 2^(bl n-53)))||(2^(bl n-53)==2*(n % 2^(bl n-53)) &&(n / 2^(bl n-53)) % 2==1))=b
   cases b<;>rfl
 rw[hcut];have hk:(if nup n=true then(1:Nat) else 0)≤1:=by split<;>omega
 have hk2:((if nup n=true then(1:Int) else 0))=(((if nup n=true then(1:Nat) else 0):Nat):Int):=by split<;>rfl
 rw[hk2];generalize(if nup n=true then(1:Nat) else 0)=k at*;have hr:rung n e=(e+bl n+1021)*4503599627370496+mf n:=rfl;rw[hr];generalize mf n=m at*;generalize bl n=B at*;unfold Ieee.Format.word;rw[hsw];obtain⟨T,hT⟩:∃T:Nat,e+B+1021=(T:Int):=⟨(e+B+1021).toNat,by omega⟩;rw[show e+(B:Int)-53 - -1074=(T:Int) by omega,hT,Int.toNat_natCast];have hT2:T≤2044:=by omega
 have hcast:(T:Int)*4503599627370496+(m:Int)+(k:Int)=((T*4503599627370496+(m+k):Nat):Int):=by
  rw[Int.natCast_add,Int.natCast_mul,Int.natCast_add,Int.add_assoc];rfl
 rw[hcast,Int.toNat_natCast,Nat.min_eq_left (by omega)]
 cases s
 ·rw[if_neg Bool.false_ne_true,if_neg Bool.false_ne_true,Nat.add_zero]
 ·rw[if_pos rfl,if_pos rfl,Nat.add_comm]
end
section
open Go.RowKit Go.Extern Ieee
def wd (s:Bool) (r:Nat):Nat:=r+(if s then 9223372036854775808 else 0)
theorem kz {s:Bool} {r:Nat} (h:r<9223372036854775808):wd s r<18446744073709551616:=by
 unfold wd;split<;>omega
theorem pO {s:Bool} {r:Nat} (h:r<9218868437227405312) (h0:0<r):∃n e,0<n∧double.read (wd s r)= .number s n e:=by
 have hsw:double.signWeight=9223372036854775808:=rfl;have hbn:double.binade=4503599627370496:=rfl;have hir:double.infRung=9218868437227405312:=rfl;have hlp:double.leastPlace=-1074:=rfl;have hm:wd s r % 9223372036854775808=r:=by unfold wd;split<;>omega
 have hd:(wd s r / 9223372036854775808 % 2==1)=s:=by
  unfold wd
  cases s
  ·rw[if_neg Bool.false_ne_true,show(r+0) / 9223372036854775808 % 2=0 by omega];rfl
  ·rw[if_pos rfl,show(r+9223372036854775808) / 9223372036854775808 % 2=1 by omega];rfl
 unfold Format.read;simp only[hsw,hbn,hir,hlp,hm,hd];by_cases hs:r<4503599627370496
 ·rw[if_pos hs];exact⟨_,_,h0,rfl⟩
 ·rw[if_neg hs,if_pos h];exact⟨_,_,by omega,rfl⟩
theorem Ec {s:Bool} {r:Nat} (h:r<9218868437227405312) (h0:0<r):(FloatKind.f64.format.order (wd s r) (wd s r)==some Ordering.eq)=true:=by
 obtain⟨n,e,hn,hr⟩:=pO (s:=s) h h0
 show(double.order _ _==_)=_
 unfold Format.order;rw[hr];simp only[Datum.order];rw[cR rfl];rfl
theorem xm {s:Bool} {r:Nat} (h:r<9218868437227405312) (h0:0<r):FloatKind.f64.format.order (wd s r) 0=some (if s then .lt else .gt):=by
 obtain⟨n,e,hn,hr⟩:=pO (s:=s) h h0
 show double.order _ _=_
 unfold Format.order;have hz:double.read 0= .number false 0 (-1074):=rfl;rw[hr,hz];simp only[Datum.order,c9,Nat.zero_mul,i6];have hpos:0<n*2^(e-min e (-1074)).toNat:=Nat.mul_pos hn (Nat.two_pow_pos _);generalize n*2^(e-min e (-1074)).toNat=m at*
 cases s
 ·rw[bJ (by simp[sg];omega)];rfl
 ·rw[bX (by simp[sg];omega)];rfl
theorem Fu {s:Bool} {r:Nat} (h:r<9218868437227405312) (h0:0<r):FloatKind.f64.format.order (wd s r) 9218868437227405312=some .lt∧FloatKind.f64.format.order 9218868437227405312 (wd s r)=some .gt:=by
 obtain⟨n,e,hn,hr⟩:=pO (s:=s) h h0
 show double.order _ _=_∧double.order _ _=_
 unfold Format.order;rw[hr,wj];exact⟨rfl,rfl⟩
theorem Bs:double.read 18442240474082181120= .infinity true:=rfl
theorem Ey {s:Bool} {r:Nat} (h:r<9218868437227405312) (h0:0<r):FloatKind.f64.format.order (wd s r) 18442240474082181120=some .gt∧FloatKind.f64.format.order 18442240474082181120 (wd s r)=some .lt:=by
 obtain⟨n,e,hn,hr⟩:=pO (s:=s) h h0
 show double.order _ _=_∧double.order _ _=_
 unfold Format.order;rw[hr,Bs];exact⟨rfl,rfl⟩
theorem lD:(FloatKind.f64.format.order 9218868437227405312 9218868437227405312==some Ordering.eq)=true:=rfl
theorem km:(FloatKind.f64.format.order 18442240474082181120 18442240474082181120==some Ordering.eq)=true:=rfl
theorem fc (b:Nat) (w:World) (h:(FloatKind.f64.format.order b b==some Ordering.eq)=true):ax 180 #[fV b] w fun e w'=>e= .returned (.bool false)∧w'=w:=by
 go_enter Tryz.func180,Tryz.ntmps180;go_wp2
 go_ret
 refine⟨?_,rfl⟩
 show Ending.returned (.bool (_ !=_))=_
 rw[bne,h];rfl
theorem A5 (w:World):ax 173 #[iV 1] w fun e w'=>e= .returned (fV 9218868437227405312)∧w'=w:=by
 have h93:=@run_callFunc_extern Tryz.prog 113 _ MathFloatBits.float64frombits Tryz.func113 (by kernel_rfl) (by kernel_rfl) (by kernel_rfl) (by kernel_rfl);have cf:∀w,(MathFloatBits.float64frombits #[uV 9218868437227405312]).run Tryz.prog w= .ok (fV 9218868437227405312) w:=fun w=>iH 9218868437227405312 w
 go_enter Tryz.func173,Tryz.ntmps173;go_wp2
 go_ret
 exact⟨rfl,rfl⟩
theorem wO (w:World):ax 173 #[iV (-1)] w fun e w'=>e= .returned (fV 18442240474082181120)∧w'=w:=by
 have h93:=@run_callFunc_extern Tryz.prog 113 _ MathFloatBits.float64frombits Tryz.func113 (by kernel_rfl) (by kernel_rfl) (by kernel_rfl) (by kernel_rfl);have cf:∀w,(MathFloatBits.float64frombits #[uV 18442240474082181120]).run Tryz.prog w= .ok (fV 18442240474082181120) w:=fun w=>iH 18442240474082181120 w
 go_enter Tryz.func173,Tryz.ntmps173;go_wp2
 go_ret
 exact⟨rfl,rfl⟩
theorem wN (s u:Bool) (r y:Nat) (w:World) (h:r<9218868437227405312) (h0:0<r) (hy:y=if u then 9218868437227405312 else 18442240474082181120):
  ax 172 #[fV (wd s r),fV y] w fun e w'=>e= .returned (fV (wd s (if s=u then r-1 else r+1)))∧w'=w:=by
 have h89:=@run_callFunc_extern Tryz.prog 99 _ MathFloatBits.float64bits Tryz.func99 (by kernel_rfl) (by kernel_rfl) (by kernel_rfl) (by kernel_rfl);have h93:=@run_callFunc_extern Tryz.prog 113 _ MathFloatBits.float64frombits Tryz.func113 (by kernel_rfl) (by kernel_rfl) (by kernel_rfl) (by kernel_rfl);have cb:=oU (wd s r)
 have cu:Hid (∀w,(MathFloatBits.float64frombits #[uV ((wd s r:Int)+1)]).run Tryz.prog w= .ok (fV (wd s (r+1))) w):=by
  intro w;rw[show(wd s r:Int)+1=((wd s (r+1):Nat):Int) by unfold wd;omega];exact iH _ w
 have cd:Hid (∀w,(MathFloatBits.float64frombits #[uV ((wd s r:Int)-1)]).run Tryz.prog w= .ok (fV (wd s (r-1))) w):=by
  intro w;rw[show(wd s r:Int)-1=((wd s (r-1):Nat):Int) by unfold wd;omega];exact iH _ w
 have hN:=Ec (s:=s) h h0;have hz:=xm (s:=s) h h0;have hi:=Fu (s:=s) h h0;have hni:=Ey (s:=s) h h0;have hb1:wd s r<18446744073709551615:=by unfold wd;split<;>omega
 have hb2:0<wd s r:=by unfold wd;split<;>omega
 have HN:=hid hN;clear hN h h0;generalize wd s r=b at*
 cases u
 ·obtain rfl:y=18442240474082181120:=hy;obtain⟨e1,e2⟩:=hni;clear hi;go_enter Tryz.func172,Tryz.ntmps172;go_wp2_with fail;refine(fc b w HN.out).mono ?_;rintro e w' ⟨rfl,rfl⟩;go_wp2_with fail;refine(fc _ _ km).mono ?_;rintro e w' ⟨rfl,rfl⟩
  cases s
  ·have hz0:=hz;have cu:=cu.out;have cd:=cd.out;clear hz;go_wp2
   go_ret
   exact⟨rfl,rfl⟩
  ·have hz0:=hz;have cu:=cu.out;have cd:=cd.out;clear hz;go_wp2
   go_ret
   exact⟨rfl,rfl⟩
 ·obtain rfl:y=9218868437227405312:=hy;obtain⟨e1,e2⟩:=hi;clear hni;go_enter Tryz.func172,Tryz.ntmps172;go_wp2_with fail;refine(fc b w HN.out).mono ?_;rintro e w' ⟨rfl,rfl⟩;go_wp2_with fail;refine(fc _ _ lD).mono ?_;rintro e w' ⟨rfl,rfl⟩
  cases s
  ·have hz0:=hz;have cu:=cu.out;have cd:=cd.out;clear hz;go_wp2
   go_ret
   exact⟨rfl,rfl⟩
  ·have hz0:=hz;have cu:=cu.out;have cd:=cd.out;clear hz;go_wp2
   go_ret
   exact⟨rfl,rfl⟩
end
section
open Go.RowKit Go.Extern Ieee
attribute [local go_sem] av
theorem jo (b q:Nat) (w:World) (hq:FloatKind.f64.format.order q 0=some .eq):
  aw 141 #[fV b,fV q] w (gF b b):=by
 go_enter Tryz.func141,Tryz.ntmps141;go_wp2;refine bodyPost_ret (v:=gF b b) (by simp[results,Tryz.results141,go_sem]) rfl ?_;exact⟨rfl,aK.alloc ae _⟩
theorem mh (s:Bool) (r q:Nat) (w:World) (hq:FloatKind.f64.format.order q 0=some .gt) (h:r<9218868437227405312) (h0:0<r):
  aw 141 #[fV (wd s r),fV q] w (.agg #[fV (wd s r),fV (wd s (if s=true then r-1 else r+1))]):=by
 have HN:=hid (fun(w:World)=>wN s true r _ w h h0 rfl);generalize wd s (if s=true then r-1 else r+1)=c at*;generalize wd s r=b at*;go_enter Tryz.func141,Tryz.ntmps141;go_wp2_with fail;refine(A5 _).mono ?_;rintro e w' ⟨rfl,rfl⟩;go_wp2_with fail;refine (HN.out _).mono ?_;rintro e w' ⟨rfl,rfl⟩;go_wp2;refine bodyPost_ret (v:=gF b c) (by simp[results,Tryz.results141,go_sem]) rfl ?_;exact⟨rfl,by(repeat refine Below.setCell ?_ (by simp) _);exact aK.alloc ae _⟩
theorem me (s:Bool) (r q:Nat) (w:World) (hq:FloatKind.f64.format.order q 0=some .lt) (h:r<9218868437227405312) (h0:0<r):
  aw 141 #[fV (wd s r),fV q] w (.agg #[fV (wd s (if s=false then r-1 else r+1)),fV (wd s r)]):=by
 have HN:=hid (fun(w:World)=>wN s false r _ w h h0 rfl);generalize wd s (if s=false then r-1 else r+1)=c at*;generalize wd s r=b at*;go_enter Tryz.func141,Tryz.ntmps141;go_wp2_with fail;refine(wO _).mono ?_;rintro e w' ⟨rfl,rfl⟩;go_wp2_with fail;refine (HN.out _).mono ?_;rintro e w' ⟨rfl,rfl⟩;go_wp2;refine bodyPost_ret (v:=gF c b) (by simp[results,Tryz.results141,go_sem]) rfl ?_;exact⟨rfl,by(repeat refine Below.setCell ?_ (by simp) _);exact aK.alloc ae _⟩
end
section
open Go.RowKit Go.Extern Ieee
attribute [local go_sem] av
theorem nD (x y near taken t1 t2 t3 q lo hi:Nat) (w:World) (h1:double.add x y=some near) (h2:double.sub near x=some taken) (h3:double.sub near taken=some t1) (h4:double.sub x t1=some t2) (h5:double.sub y taken=some t3) (h6:double.add t2 t3=some q)
  (hA:∀w,aw 141 #[fV near,fV q] w (gF lo hi)):
  aw 89 #[fV x,fV y] w (gF lo hi):=by
 have g1:∀w,(binOp .add 65 (fV x) (fV y)).run Tryz.prog w= .ok (fV near) w:=fun w=>run_float_arith w .add _ .f64 x y near h1
 have g2:∀w,(binOp .sub 65 (fV near) (fV x)).run Tryz.prog w= .ok (fV taken) w:=fun w=>run_float_arith w .sub _ .f64 near x taken h2
 have g3:∀w,(binOp .sub 65 (fV near) (fV taken)).run Tryz.prog w= .ok (fV t1) w:=fun w=>run_float_arith w .sub _ .f64 near taken t1 h3
 have g4:∀w,(binOp .sub 65 (fV x) (fV t1)).run Tryz.prog w= .ok (fV t2) w:=fun w=>run_float_arith w .sub _ .f64 x t1 t2 h4
 have g5:∀w,(binOp .sub 65 (fV y) (fV taken)).run Tryz.prog w= .ok (fV t3) w:=fun w=>run_float_arith w .sub _ .f64 y taken t3 h5
 have g6:∀w,(binOp .add 65 (fV t2) (fV t3)).run Tryz.prog w= .ok (fV q) w:=fun w=>run_float_arith w .add _ .f64 t2 t3 q h6
 have HA:=hid hA;clear h1 h2 h3 h4 h5 h6 hA;go_enter Tryz.func89,Tryz.ntmps89;go_wp2_with fail;refine (HA.out _).mono ?_;rintro e w1 ⟨rfl,hb1⟩;have B0:=aa (af w _) hb1;obtain⟨k0,k1,k2,k3⟩:=aj B0;have HB1:=hid (aJ.trans (hb1.mono (by simp)));clear hb1 B0 HA;go_wp2;refine bodyPost_ret (v:=gF lo hi) (by simp[results,Tryz.results89,go_sem,k0,k1]) rfl ?_;exact⟨rfl,(HB1.out.setCell (by simp) _).setCell (by simp) _⟩
end
section
open Go.RowKit Go.Extern Ieee
theorem cz {n:Nat} (h:n≠0) (k:Nat):bl (n*2^k)=bl n+k:=by
 obtain⟨b1,b2,b3⟩:=bt (Nat.pos_of_ne_zero h);refine rU ?_ ?_ (by omega)
 ·rw[show bl n+k-1=(bl n-1)+k by omega,Nat.pow_add];exact Nat.mul_le_mul_right _ b1
 ·rw[Nat.pow_add];exact Nat.mul_lt_mul_of_pos_right b2 (Nat.two_pow_pos _)
theorem yE (n a b:Nat):n*2^(a+b) / 2^b=n*2^a:=by
 rw[Nat.pow_add,←Nat.mul_assoc,Nat.mul_div_cancel _ (Nat.two_pow_pos _)]
theorem nw {n:Nat} (h:n≠0) (k:Nat):mf (n*2^k)=mf n:=by
 unfold mf;rw[cz h];by_cases h1:bl n+k≤53
 ·rw[if_pos h1,if_pos (by omega),Nat.mul_assoc,←Nat.pow_add];congr 2;omega
 ·rw[if_neg h1];by_cases h2:bl n≤53
  ·rw[if_pos h2];have:=yE n (53-bl n) (bl n+k-53);rwa [show 53-bl n+(bl n+k-53)=k by omega] at this
  ·rw[if_neg h2,show bl n+k-53=(bl n-53)+k by omega,Nat.pow_add,Nat.mul_div_mul_right _ _ (Nat.two_pow_pos _)]
theorem ke {n:Nat} (h:n≠0) (k:Nat):nup (n*2^k)=nup n:=by
 unfold nup;rw[cz h];by_cases h2:bl n≤53
 ·rw[decide_eq_false (show¬53<bl n by omega),Bool.false_and];by_cases h1:bl n+k≤53
  ·rw[decide_eq_false (by omega),Bool.false_and]
  ·have hz:n*2^k % 2^(bl n+k-53)=0:=by
    rw[show k=(53-bl n)+(bl n+k-53) by omega,Nat.pow_add,←Nat.mul_assoc];rw[show bl n+(53-bl n+(bl n+k-53))-53=bl n+k-53 by omega];exact Nat.mul_mod_left _ _
   rw[hz];have hp:=Nat.two_pow_pos (bl n+k-53);have e1:decide (2^(bl n+k-53)<2*0)=false:=decide_eq_false (by omega);have e2:(2^(bl n+k-53)==2*0)=false:=by rw[beq_eq_false_iff_ne];omega
   rw[e1,e2];simp
 ·rw[decide_eq_true (show 53<bl n by omega),decide_eq_true (show 53<bl n+k by omega)];rw[show bl n+k-53=(bl n-53)+k by omega,Nat.pow_add,Nat.mul_div_mul_right _ _ (Nat.two_pow_pos _),Nat.mul_mod_mul_right];generalize n % 2^(bl n-53)=r;generalize 2^(bl n-53)=g;have hp:=Nat.two_pow_pos k;generalize 2^k=t at*
  have e1:decide (g*t<2*(r*t))=decide (g<2*r):=by
   rw[←Nat.mul_assoc];exact decide_eq_decide.2 (Nat.mul_lt_mul_right hp)
  have e2:(g*t==2*(r*t))=(g==2*r):=by
   rw[←Nat.mul_assoc,Bool.eq_iff_iff,beq_iff_eq,beq_iff_eq];exact Nat.mul_right_cancel_iff hp
  rw[e1,e2]
theorem jx {n:Nat} (h:n≠0) (k:Nat) (hi:aP n=false):aP (n*2^k)=false:=by
 unfold aP at*;rw[cz h];rw[decide_eq_false_iff_not] at hi⊢;rintro⟨h1,h2⟩;apply h2;by_cases hb:bl n≤53
 ·rw[show k=(53-bl n)+(bl n+k-53) by omega,Nat.pow_add,←Nat.mul_assoc];rw[show bl n+(53-bl n+(bl n+k-53))-53=bl n+k-53 by omega];exact Nat.mul_mod_left _ _
 ·rw[show bl n+k-53=(bl n-53)+k by omega,Nat.pow_add,Nat.mul_mod_mul_right]
  have:n % 2^(bl n-53)=0:=by
   apply Decidable.byContradiction;intro hc;exact hi ⟨by omega,hc⟩
  rw[this,Nat.zero_mul]
theorem nU (s:Bool) {n:Nat} {e:Int} (k:Nat) (h0:n≠0) (h1:-1021≤e+k+bl n) (h2:e+k+bl n≤1023):double.nearest s (n*2^k) e=double.nearest s n (e+k):=by
 have hn:=Nat.mul_ne_zero h0 (Nat.pos_iff_ne_zero.1 (Nat.two_pow_pos k));have hb:=cz h0 k;rw[eX s hn (by omega) (by omega),eX s h0 h1 h2,ke h0]
 have:rung (n*2^k) e=rung n (e+k):=by
  unfold rung;rw[nw h0,hb]
  congr 2
  omega
 rw[this]
theorem xW (s:Bool) {n m:Nat} {e f c:Int} (hc1:c≤e) (hc2:c≤f) (hn:n≠0) (h1:-1021≤e+bl n) (h2:e+bl n≤1023) (hv:n*2^(e-c).toNat=m*2^(f-c).toNat):double.nearest s n e=double.nearest s m f:=by
 have hm:m≠0:=by
  rintro rfl;rw[Nat.zero_mul] at hv;rcases Nat.mul_eq_zero.1 hv with h|h
  ·exact hn h
  ·exact Nat.pos_iff_ne_zero.1 (Nat.two_pow_pos _) h
 have e1:=cz hn (e-c).toNat
 have e2:=cz hm (f-c).toNat
 rw[hv] at e1;have a:=nU s (n:=n) (e:=c) (e-c).toNat hn (by omega) (by omega);have b:=nU s (n:=m) (e:=c) (f-c).toNat hm (by omega) (by omega);rw[show c+((e-c).toNat:Int)=e by omega] at a;rw[show c+((f-c).toNat:Int)=f by omega] at b;rw[←a,←b,hv]
def fd (e z:Int):Nat:=double.nearest (decide (z<0)) z.natAbs e
def eW (e z:Int):Prop:=-1022≤e∧e+bl z.natAbs≤1023
def Rep (z:Int):Prop:=aP z.natAbs=false
theorem eD (e:Int):fd e 0=0:=rfl
theorem ie {n:Nat} (h:aP n=false):nup n=false:=by
 unfold aP at h;unfold nup;rw[decide_eq_false_iff_not] at h;by_cases hb:53<bl n
 ·have hz:n % 2^(bl n-53)=0:=by
   apply Decidable.byContradiction;intro hc;exact h ⟨hb,hc⟩
  rw[hz];have hp:=Nat.two_pow_pos (bl n-53);have e1:decide (2^(bl n-53)<2*0)=false:=decide_eq_false (by omega);have e2:(2^(bl n-53)==2*0)=false:=by rw[beq_eq_false_iff_ne];omega
  rw[e1,e2];simp
 ·rw[decide_eq_false hb,Bool.false_and]
theorem vj {s:Bool} {T m:Nat} (h1:4503599627370496≤m) (h2:m<9007199254740992) (hT:T≤2044):double.read (wd s (T*4503599627370496+m))= .number s m ((T:Int)-1074):=by
 have hsw:double.signWeight=9223372036854775808:=rfl;have hbn:double.binade=4503599627370496:=rfl;have hir:double.infRung=9218868437227405312:=rfl;have hlp:double.leastPlace=-1074:=rfl;have hm:wd s (T*4503599627370496+m) % 9223372036854775808=T*4503599627370496+m:=by unfold wd;split<;>omega
 have hd:(wd s (T*4503599627370496+m) / 9223372036854775808 % 2==1)=s:=by
  unfold wd
  cases s
  ·rw[if_neg Bool.false_ne_true,show(T*4503599627370496+m+0) / 9223372036854775808 % 2=0 by omega];rfl
  ·rw[if_pos rfl,show(T*4503599627370496+m+9223372036854775808) / 9223372036854775808 % 2=1 by omega];rfl
 unfold Format.read;simp only[hsw,hbn,hir,hlp,hm,hd];rw[if_neg (by omega),if_pos (by omega)]
 congr 1
 ·omega
 ·omega
theorem kI {e z:Int} (h0:z≠0) (hf:eW e z):fd e z=wd (decide (z<0)) ((rung z.natAbs e+if nup z.natAbs then 1 else 0).toNat):=by
 have hn:z.natAbs≠0:=by omega
 have hb:=eK (Nat.pos_of_ne_zero hn);have:=hf.1;have:=hf.2;unfold fd;rw[eX _ hn (by omega) (by omega)];unfold wd
 cases decide (z<0)<;>rfl
def dE (e z:Int) (s:Bool) (m:Nat) (p:Int):Prop:=∀c,c≤p→c≤e→sg s (m*2^(p-c).toNat)=z*((2^(e-c).toNat:Nat):Int)
theorem i9 {e z:Int} (hf:eW e z) (hr:Rep z):∃s m p,double.read (fd e z)= .number s m p∧dE e z s m p∧(z=0→s=false)∧(z≠0→s=decide (z<0)):=by
 by_cases h0:z=0
 ·subst h0;refine⟨false,0,-1074,by rw[eD];rfl,?_,fun _=>rfl,fun h=>absurd rfl h⟩;intro c _ _;rw[Nat.zero_mul,Int.zero_mul];rfl
 ·have hn:z.natAbs≠0:=by omega
  have hb:=eK (Nat.pos_of_ne_zero hn);have f1:=hf.1;have f2:=hf.2;obtain⟨T,hT⟩:∃T:Nat,e+bl z.natAbs+1021=(T:Int):=⟨(e+bl z.natAbs+1021).toNat,by omega⟩;obtain⟨m1,m2⟩:=b9 (Nat.pos_of_ne_zero hn)
  have hfd:fd e z=wd (decide (z<0)) (T*4503599627370496+mf z.natAbs):=by
   rw[kI h0 hf,ie hr]
   congr 1
   unfold rung;rw[hT]
   have:(T:Int)*4503599627370496+(mf z.natAbs:Int)+(if false=true then 1 else 0)=((T*4503599627370496+mf z.natAbs:Nat):Int):=by
    rw[if_neg Bool.false_ne_true,Int.add_zero,Int.natCast_add,Int.natCast_mul];rfl
   rw[this,Int.toNat_natCast]
  refine⟨decide (z<0),mf z.natAbs,(T:Int)-1074,?_,?_,fun h=>absurd h h0,fun _=>rfl⟩
  ·rw[hfd];exact vj m1 m2 (by omega)
  ·intro c hc1 hc2
   have hmag:mf z.natAbs*2^((T:Int)-1074-c).toNat=z.natAbs*2^(e-c).toNat:=by
    have hr':aP z.natAbs=false:=hr;unfold aP at hr';rw[decide_eq_false_iff_not] at hr';unfold mf;by_cases hb53:bl z.natAbs≤53
    ·rw[if_pos hb53,Nat.mul_assoc,←Nat.pow_add];congr 2;omega
    ·rw[if_neg hb53]
     have hz:z.natAbs % 2^(bl z.natAbs-53)=0:=by
      apply Decidable.byContradiction;intro hc;exact hr' ⟨by omega,hc⟩
     have hd:=Nat.div_add_mod z.natAbs (2^(bl z.natAbs-53));rw[hz,Nat.add_zero,Nat.mul_comm] at hd;have:z.natAbs*2^(e-c).toNat=z.natAbs / 2^(bl z.natAbs-53)*2^(bl z.natAbs-53)*2^(e-c).toNat:=by rw[hd]
     rw[this,Nat.mul_assoc,←Nat.pow_add];congr 2;omega
   rw[hmag];unfold sg;by_cases hz:z<0
   ·rw[decide_eq_true hz,if_pos rfl,Int.natCast_mul,show((z.natAbs:Nat):Int)=-z by omega,Int.neg_mul,Int.neg_neg]
   ·rw[decide_eq_false hz,if_neg Bool.false_ne_true,Int.natCast_mul,show((z.natAbs:Nat):Int)=z by omega]
theorem dE.opp {e z:Int} {s:Bool} {m:Nat} {p:Int} (h:dE e z s m p):dE e (-z) (!s) m p:=by
 intro c h1 h2;have:=h c h1 h2;rw[Int.neg_mul,←this];unfold sg
 cases s
 ·rfl
 ·simp
theorem oZ {x:Int} {n:Nat} {s:Bool} (h:sg s n=x):n=x.natAbs:=by
 unfold sg at h
 cases s
 ·rw[if_neg Bool.false_ne_true] at h;omega
 ·rw[if_pos rfl] at h;omega
theorem jc {e x y:Int} {s t:Bool} {m n:Nat} {p q:Int} (hx:dE e x s m p) (hy:dE e y t n q) (hf:eW e (x+y)) (hz:x+y=0→(s && t)=false):
  (Datum.sum (.number s m p) (.number t n q)).map double.write=some (fd e (x+y)):=by
 simp only[Datum.sum,Option.map_some,Format.write,c9]
 congr 1
 generalize hT:sg s (m*2^(p-min p q).toNat)+sg t (n*2^(q-min p q).toNat)=T
 have key:T*((2^(min p q-min (min p q) e).toNat:Nat):Int)=(x+y)*((2^(e-min (min p q) e).toNat:Nat):Int):=by
  have a:=hx (min (min p q) e) (by omega) (by omega);have b:=hy (min (min p q) e) (by omega) (by omega);rw[Int.add_mul,←a,←b,←hT,Int.add_mul]
  have sgm:∀(s:Bool) (n k:Nat),sg s n*(k:Int)=sg s (n*k):=by
   intro s n k;unfold sg
   cases s
   ·rw[if_neg Bool.false_ne_true,if_neg Bool.false_ne_true,Int.natCast_mul]
   ·rw[if_pos rfl,if_pos rfl,Int.natCast_mul,Int.neg_mul]
  rw[sgm,sgm,Nat.mul_assoc,Nat.mul_assoc,←Nat.pow_add,←Nat.pow_add]
  congr 4<;>congr 1<;>omega
 have hp1:(0:Int)<((2^(min p q-min (min p q) e).toNat:Nat):Int):=by exact_mod_cast Nat.two_pow_pos _
 have hp2:(0:Int)<((2^(e-min (min p q) e).toNat:Nat):Int):=by exact_mod_cast Nat.two_pow_pos _
 by_cases h0:x+y=0
 ·have hT0:T=0:=by
   rw[h0,Int.zero_mul] at key;rcases Int.mul_eq_zero.1 key with h|h
   ·exact h
   ·omega
  rw[if_pos hT0,hz h0,hT0,h0,eD]
  rfl
 ·have hT0:T≠0:=by
   rintro rfl;rw[Int.zero_mul] at key;rcases Int.mul_eq_zero.1 key.symm with h|h
   ·exact h0 h
   ·omega
  have hsgn:decide (T<0)=decide (x+y<0):=by
   apply decide_eq_decide.2;constructor
   ·intro h;have:T*_<0:=Int.mul_neg_of_neg_of_pos h hp1;rw[key] at this;rcases(show x+y<0∨0≤x+y by omega) with h'|h'
    ·exact h'
    ·have:=Int.mul_nonneg h' (Int.le_of_lt hp2);omega
   ·intro h;have:(x+y)*_<0:=Int.mul_neg_of_neg_of_pos h hp2;rw[←key] at this;rcases(show T<0∨0≤T by omega) with h'|h'
    ·exact h'
    ·have:=Int.mul_nonneg h' (Int.le_of_lt hp1);omega
  rw[if_neg hT0,hsgn];unfold fd
  have hmag:(x+y).natAbs*2^(e-min (min p q) e).toNat=T.natAbs*2^(min p q-min (min p q) e).toNat:=by
   have:=congrArg Int.natAbs key;rw[Int.natAbs_mul,Int.natAbs_mul,Int.natAbs_natCast,Int.natAbs_natCast] at this;exact this.symm
  have hb:=eK (n:=(x+y).natAbs) (by omega);have:=hf.1;have:=hf.2;exact(xW _ (c:=min (min p q) e) (by omega) (by omega) (by omega) (by omega) (by omega) hmag).symm
theorem lm {e x y:Int} (fx:eW e x) (fy:eW e y) (rx:Rep x) (ry:Rep y) (hf:eW e (x+y)):double.add (fd e x) (fd e y)=some (fd e (x+y)):=by
 obtain⟨s,m,p,h1,h2,h3,h4⟩:=i9 fx rx;obtain⟨t,n,q,g1,g2,g3,g4⟩:=i9 fy ry;unfold Format.add;rw[h1,g1];refine jc h2 g2 hf ?_;intro hz;by_cases hx:x=0
 ·rw[h3 hx,Bool.false_and]
 ·rw[h4 hx,g4 (by omega)];by_cases hx':x<0
  ·rw[decide_eq_false (show¬y<0 by omega),Bool.and_false]
  ·rw[decide_eq_false hx',Bool.false_and]
theorem eF {e x y:Int} (fx:eW e x) (fy:eW e y) (rx:Rep x) (ry:Rep y) (hf:eW e (x-y)):double.sub (fd e x) (fd e y)=some (fd e (x-y)):=by
 obtain⟨s,m,p,h1,h2,h3,h4⟩:=i9 fx rx;obtain⟨t,n,q,g1,g2,g3,g4⟩:=i9 fy ry;unfold Format.sub;rw[h1,g1,Int.sub_eq_add_neg];refine jc h2 g2.opp (by rw[←Int.sub_eq_add_neg];exact hf) ?_;intro hz;by_cases hx:x=0
 ·rw[h3 hx,Bool.false_and]
 ·rw[h4 hx,g4 (by omega)];by_cases hx':x<0
  ·rw[decide_eq_true (show y<0 by omega),Bool.not_true,Bool.and_false]
  ·rw[decide_eq_false hx',Bool.false_and]
def gk (s:Bool) (n:Nat):Ordering:=if aP n=false then .eq else if s=nup n then .gt else .lt
theorem D6 {n:Nat} (h:nup n=true):aP n=true:=by
 cases hi:aP n
 ·rw[ie hi] at h;cases h
 ·rfl
theorem jn (s:Bool) (n:Nat) (e:Int) (q:Nat) (w:World) (h0:n≠0) (h1:-1021≤e+bl n) (h2:e+bl n≤1022) (hq:FloatKind.f64.format.order q 0=some (gk s n)):
  aw 141 #[fV (double.nearest s n e),fV q] w (.agg #[fV (wd s (rung n e+if offS s (-1) && aP n then 1 else 0).toNat),fV (wd s (rung n e+if offS s 1 && aP n then 1 else 0).toNat)]):=by
 have hnr:=eX s h0 h1 (by omega);have hm:=b9 (Nat.pos_of_ne_zero h0)
 obtain⟨R,hR⟩:∃R:Nat,rung n e=(R:Int)∧0<R∧R+1<9218868437227405312:=by
  refine⟨(rung n e).toNat,?_⟩;unfold rung;omega
 obtain⟨hR,r0,r1⟩:=hR;rw[hR] at hnr⊢
 have hcast:∀b:Bool,((R:Int)+if b=true then 1 else 0).toNat=R+(if b=true then 1 else 0):=by
  intro b;cases b<;>simp
 rw[hcast] at hnr;rw[hcast,hcast];have hnw:double.nearest s n e=wd s (R+if nup n=true then 1 else 0):=hnr;rw[hnw]
 cases hi:aP n
 ·have hn:nup n=false:=ie hi;have hs:gk s n= .eq:=by unfold gk;rw[if_pos hi]
  rw[hs] at hq;have:=jo (wd s R) q w hq;simpa[hn] using this
 ·cases hn:nup n
  ·cases s
   ·have hs:gk false n= .gt:=by unfold gk;rw[hi,hn];rfl
    rw[hs] at hq;have:=mh false R q w hq (by omega) r0;simpa[offS] using this
   ·have hs:gk true n= .lt:=by unfold gk;rw[hi,hn];rfl
    rw[hs] at hq;have:=me true R q w hq (by omega) r0;simpa[offS] using this
  ·cases s
   ·have hs:gk false n= .lt:=by unfold gk;rw[hi,hn];rfl
    rw[hs] at hq;have:=me false (R+1) q w hq (by omega) (by omega);simpa[offS] using this
   ·have hs:gk true n= .gt:=by unfold gk;rw[hi,hn];rfl
    rw[hs] at hq;have:=mh true (R+1) q w hq (by omega) (by omega);simpa[offS] using this
def nearM (n:Nat):Nat:=if bl n≤53 then n else(mf n+if nup n then 1 else 0)*2^(bl n-53)
theorem b8 {n:Nat} (h:bl n≤53):aP n=false:=by
 unfold aP;rw[decide_eq_false];omega
theorem dz {n:Nat} (h0:n≠0):nearM n≠0∧aP (nearM n)=false∧(∀e,rung (nearM n) e=rung n e+if nup n then 1 else 0)∧bl (nearM n)≤bl n+1:=by
 unfold nearM;by_cases hb:bl n≤53
 ·rw[if_pos hb];have hn:=ie (b8 hb);refine⟨h0,b8 hb,?_,by omega⟩;intro e;rw[hn];simp
 ·rw[if_neg hb];obtain⟨m1,m2⟩:=b9 (Nat.pos_of_ne_zero h0)
  have hx:∀x:Nat,4503599627370496≤x→x<9007199254740992→x*2^(bl n-53)≠0∧aP (x*2^(bl n-53))=false∧(∀e:Int,rung (x*2^(bl n-53)) e=(e+bl n+1021)*4503599627370496+(x:Int))∧bl (x*2^(bl n-53))≤bl n+1:=by
   intro x x1 x2;have hx0:x≠0:=by omega
   have hbx:=eB x1 x2;refine⟨Nat.mul_ne_zero hx0 (Nat.pos_iff_ne_zero.1 (Nat.two_pow_pos _)),jx hx0 _ (b8 (by omega)),?_,by rw[cz hx0];omega⟩;intro e;unfold rung;rw[nw hx0,cz hx0,hbx];have:mf x=x:=by unfold mf;rw[if_pos (by omega),hbx];simp
   rw[this]
   congr 2
   omega
  cases hn:nup n
  ·have:=hx (mf n) m1 m2;simpa[rung] using this
  ·by_cases hc:mf n+1<9007199254740992
   ·have:=hx (mf n+1) (by omega) hc;simp only[if_true];refine⟨this.1,this.2.1,?_,this.2.2.2⟩;intro e;rw[this.2.2.1];unfold rung;omega
   ·have hm:mf n+1=9007199254740992:=by omega
    simp only[if_true];rw[hm];have hb54:=xz;have h54:(9007199254740992:Nat)≠0:=by decide
    have hmf:mf 9007199254740992=4503599627370496:=by unfold mf;rw[hb54];rfl
    refine⟨Nat.mul_ne_zero h54 (Nat.pos_iff_ne_zero.1 (Nat.two_pow_pos _)),jx h54 _ (by unfold aP;rw[hb54];rfl),?_,by rw[cz h54];omega⟩;intro e;unfold rung;rw[nw h54,cz h54,hb54,hmf];omega
theorem t8 (n:Nat):(aP n=false→nearM n=n)∧(aP n=true→nup n=true→n<nearM n)∧(aP n=true→nup n=false→nearM n<n)∧n≤nearM n+2^(bl n-53)∧nearM n≤n+2^(bl n-53):=by
 unfold nearM;by_cases hb:bl n≤53
 ·rw[if_pos hb];have hi:=b8 hb;refine⟨fun _=>rfl,fun h=>(by rw[hi] at h;cases h),fun h=>(by rw[hi] at h;cases h),Nat.le_add_right _ _,Nat.le_add_right _ _⟩
 ·rw[if_neg hb];have hmf:mf n=n / 2^(bl n-53):=by unfold mf;rw[if_neg hb]
  have hix:aP n=decide (n % 2^(bl n-53)≠0):=by unfold aP;simp[show 53<bl n by omega]
  have hd:=Nat.div_add_mod n (2^(bl n-53));have hl:=Nat.mod_lt n (Nat.two_pow_pos (bl n-53));rw[hmf]
  cases hn:nup n
  ·rw[if_neg Bool.false_ne_true,Nat.add_zero];rw[Nat.mul_comm] at hd;generalize n / 2^(bl n-53)*2^(bl n-53)=A at*;generalize n % 2^(bl n-53)=r at*;generalize 2^(bl n-53)=g at*;refine⟨fun h=>?_,fun _ h=>(by cases h),fun h _=>?_,by omega,by omega⟩
   ·rw[hix,decide_eq_false_iff_not] at h;omega
   ·rw[hix,decide_eq_true_eq] at h;omega
  ·have hi:=D6 hn;rw[if_pos rfl,Nat.add_mul,Nat.one_mul];rw[Nat.mul_comm] at hd;generalize n / 2^(bl n-53)*2^(bl n-53)=A at*;generalize n % 2^(bl n-53)=r at*;generalize 2^(bl n-53)=g at*;refine⟨fun h=>(by rw[hi] at h;cases h),fun _ _=>by omega,fun _ h=>(by cases h),by omega,by omega⟩
theorem qR {e z:Int} (hf:eW e z) (h2:e+bl z.natAbs≤1022):FloatKind.f64.format.order (fd e z) 0=some (if z=0 then .eq else if z<0 then .lt else .gt):=by
 by_cases h0:z=0
 ·subst h0;rw[eD];rfl
 ·have hn:z.natAbs≠0:=by omega
  have hm:=b9 (Nat.pos_of_ne_zero hn);have f1:=hf.1;have hb:=eK (Nat.pos_of_ne_zero hn);rw[kI h0 hf,if_neg h0,xm (by unfold rung;split<;>omega) (by unfold rung;split<;>omega)];by_cases hz:z<0
  ·rw[decide_eq_true hz,if_pos rfl,if_pos hz]
  ·rw[decide_eq_false hz,if_neg Bool.false_ne_true,if_neg hz]
theorem AQ {z:Int} (h:z.natAbs<2^70):eW 0 z∧(0:Int)+bl z.natAbs≤1022:=by
 have:=bQ h;exact⟨⟨by omega,by omega⟩,by omega⟩
theorem BZ {z:Int} (h:z.natAbs<2^53):Rep z:=b8 (bQ h)
def nearI (n:Int):Int:=sg (decide (n<0)) (nearM n.natAbs)
theorem yn {n:Int} (h0:n≠0) (hb:n.natAbs<2^65):Rep (nearI n)∧fd 0 (nearI n)=fd 0 n∧(nearI n).natAbs<2^67∧(n-nearI n).natAbs≤4096∧(if n-nearI n=0 then Ordering.eq else if n-nearI n<0 then .lt else .gt)=gk (decide (n<0)) n.natAbs:=by
 have hn:n.natAbs≠0:=by omega
 obtain⟨f1,f2,f3,f4⟩:=dz hn;obtain⟨c1,c2,c3,c4,c5⟩:=t8 n.natAbs;have hbl:=bQ hb
 have hg:2^(bl n.natAbs-53)≤4096:=by
  have:(2:Nat)^(bl n.natAbs-53)≤2^12:=Nat.pow_le_pow_right (by decide) (by omega);exact this
 have habs:(nearI n).natAbs=nearM n.natAbs:=by unfold nearI;exact(oZ rfl).symm
 have hsgn:(n<0→nearI n=-(nearM n.natAbs:Int))∧(¬n<0→nearI n=(nearM n.natAbs:Int)):=by
  unfold nearI sg;constructor
  ·intro h;rw[decide_eq_true h,if_pos rfl]
  ·intro h;rw[decide_eq_false h,if_neg Bool.false_ne_true]
 have hNlt:decide (nearI n<0)=decide (n<0):=by
  apply decide_eq_decide.2;by_cases h:n<0
  ·have:=hsgn.1 h;omega
  ·have:=hsgn.2 h;omega
 have hNb:bl (nearM n.natAbs)≤66:=by omega
 have hlt67:nearM n.natAbs<2^67:=by
  have:=(bt (Nat.pos_of_ne_zero f1)).2.1;exact Nat.lt_of_lt_of_le this (Nat.pow_le_pow_right (by decide) (by omega))
 refine⟨?_,?_,by rw[habs];exact hlt67,?_,?_⟩
 ·show aP (nearI n).natAbs=false
  rw[habs];exact f2
 ·have hN0:nearI n≠0:=by omega
  have hp1:=eK (Nat.pos_of_ne_zero f1);rw[kI hN0 ⟨by omega,by rw[habs];omega⟩,kI h0 ⟨by omega,by omega⟩,habs,hNlt,ie f2,f3];simp
 ·by_cases h:n<0
  ·have:=hsgn.1 h;omega
  ·have:=hsgn.2 h;omega
 ·unfold gk;by_cases h:n<0
  ·have hs:=hsgn.1 h;rw[decide_eq_true h]
   cases hi:aP n.natAbs
   ·have:=c1 hi;rw[if_pos (by omega),if_pos rfl]
   ·rw[if_neg (show¬true=false by simp)]
    cases hu:nup n.natAbs
    ·have:=c3 hi hu;rw[if_neg (by omega),if_pos (by omega)];rfl
    ·have:=c2 hi hu;rw[if_neg (by omega),if_neg (by omega)];rfl
  ·have hs:=hsgn.2 h;rw[decide_eq_false h]
   cases hi:aP n.natAbs
   ·have:=c1 hi;rw[if_pos (by omega),if_pos rfl]
   ·rw[if_neg (show¬true=false by simp)]
    cases hu:nup n.natAbs
    ·have:=c3 hi hu;rw[if_neg (by omega),if_neg (by omega)];rfl
    ·have:=c2 hi hu;rw[if_neg (by omega),if_pos (by omega)];rfl
theorem DR {x:Int} (h:x.natAbs≤2^63) (hm:x.natAbs % 2048=0):Rep x:=by
 show aP x.natAbs=false
 have hb:=bQ (n:=x.natAbs) (k:=64) (by have:(2:Nat)^63<2^64:=(by decide);omega);unfold aP;rw[decide_eq_false_iff_not];rintro⟨h1,h2⟩;apply h2;obtain⟨k,hk⟩:∃k,bl x.natAbs-53+k=11:=⟨11-(bl x.natAbs-53),by omega⟩;have e:(2048:Nat)=2^(bl x.natAbs-53)*2^k:=by rw[←Nat.pow_add,hk]
 have:x.natAbs % 2048 % 2^(bl x.natAbs-53)=x.natAbs % 2^(bl x.natAbs-53):=by rw[e,Nat.mod_mul_right_mod]
 rw[←this,hm,Nat.zero_mod]
def wholeLo (n:Int):Nat:=if n=0 then 0 else wd (decide (n<0)) (rung n.natAbs 0+if offS (decide (n<0)) (-1) && aP n.natAbs then 1 else 0).toNat
def wholeHi (n:Int):Nat:=if n=0 then 0 else wd (decide (n<0)) (rung n.natAbs 0+if offS (decide (n<0)) 1 && aP n.natAbs then 1 else 0).toNat
theorem Cf (n x y:Int) (w:World) (hn:n.natAbs≤2^63) (hxy:n=x+y) (hx:x.natAbs≤2^63) (hxm:x.natAbs % 2048=0) (hy:y.natAbs<2048):
  aw 89 #[fV (fd 0 x),fV (fd 0 y)] w (.agg #[fV (wholeLo n),fV (wholeHi n)]):=by
 have p63:(2:Nat)^63=9223372036854775808:=by decide
 have p65:(2:Nat)^65=36893488147419103232:=by decide
 have p67:(2:Nat)^67=147573952589676412928:=by decide
 have p70:(2:Nat)^70=1180591620717411303424:=by decide
 have p53':=p53;have fz:∀z:Int,z.natAbs<1180591620717411303424→eW 0 z:=fun z h=>(AQ (by rw[p70];exact h)).1
 have rz:=fun(z:Int) (h:z.natAbs<9007199254740992)=>BZ (by rw[p53];exact h)
 have rx:=DR hx hxm;rw[p63] at hn hx;by_cases h0:n=0
 ·have ex:wholeLo n=0:=by unfold wholeLo;rw[if_pos h0]
  have ey:wholeHi n=0:=by unfold wholeHi;rw[if_pos h0]
  have h1:=lm (e:=0) (x:=x) (y:=y) (fz _ (by omega)) (fz _ (by omega)) rx (rz _ (by omega)) (fz _ (by omega));have h2:=eF (e:=0) (x:=x+y) (y:=x) (fz _ (by omega)) (fz _ (by omega)) (rz _ (by omega)) rx (fz _ (by omega));have h3:=eF (e:=0) (x:=x+y) (y:=x+y-x) (fz _ (by omega)) (fz _ (by omega)) (rz _ (by omega)) (rz _ (by omega)) (fz _ (by omega));have h4:=eF (e:=0) (x:=x) (y:=x+y-(x+y-x)) (fz _ (by omega)) (fz _ (by omega)) rx (by rw[show x+y-(x+y-x)=x by omega];exact rx) (fz _ (by omega));have h5:=eF (e:=0) (x:=y) (y:=x+y-x) (fz _ (by omega)) (fz _ (by omega)) (rz _ (by omega)) (rz _ (by omega)) (fz _ (by omega));have h6:=lm (e:=0) (x:=x-(x+y-(x+y-x))) (y:=y-(x+y-x)) (fz _ (by omega)) (fz _ (by omega)) (rz _ (by omega)) (rz _ (by omega)) (fz _ (by omega));refine nD _ _ _ _ _ _ _ _ _ _ w h1 h2 h3 h4 h5 h6 ?_;intro w;rw[ex,ey,show x+y=0 by omega,eD,show x-(0-(0-x))+(y-(0-x))=0 by omega,eD];exact jo 0 0 w rfl
 ·obtain⟨n1,n2,n3,n4,n5⟩:=yn h0 (by rw[p65];omega);rw[p67] at n3;generalize hN:nearI n=N at*;have h1:=lm (e:=0) (x:=x) (y:=y) (fz _ (by omega)) (fz _ (by omega)) rx (rz _ (by omega)) (fz _ (by omega));rw[←hxy,←n2] at h1;have h2:=eF (e:=0) (x:=N) (y:=x) (fz _ (by omega)) (fz _ (by omega)) n1 rx (fz _ (by omega));have h3:=eF (e:=0) (x:=N) (y:=N-x) (fz _ (by omega)) (fz _ (by omega)) n1 (rz _ (by omega)) (fz _ (by omega));have h4:=eF (e:=0) (x:=x) (y:=N-(N-x)) (fz _ (by omega)) (fz _ (by omega)) rx (by rw[show N-(N-x)=x by omega];exact rx) (fz _ (by omega));have h5:=eF (e:=0) (x:=y) (y:=N-x) (fz _ (by omega)) (fz _ (by omega)) (rz _ (by omega)) (rz _ (by omega)) (fz _ (by omega));have h6:=lm (e:=0) (x:=x-(N-(N-x))) (y:=y-(N-x)) (fz _ (by omega)) (fz _ (by omega)) (rz _ (by omega)) (rz _ (by omega)) (fz _ (by omega));refine nD _ _ _ _ _ _ _ _ _ _ w h1 h2 h3 h4 h5 h6 ?_;intro w;rw[show x-(N-(N-x))+(y-(N-x))=n-N by omega,n2];have hb:=bQ (n:=n.natAbs) (k:=65) (by rw[p65];omega);have hbp:=eK (n:=n.natAbs) (by omega);have hq:=qR (e:=0) (z:=n-N) (fz _ (by omega)) (by have:=bQ (n:=(n-N).natAbs) (k:=70) (by rw[p70];omega);omega);rw[n5] at hq;have:=jn (decide (n<0)) n.natAbs 0 _ w (by omega) (by omega) (by omega) hq;unfold wholeLo wholeHi;rw[if_neg h0,if_neg h0];exact this
end
section
open Go.RowKit Go.Extern Ieee
attribute [local go_sem] av
theorem lV (n:Int):(BitVec.ofInt 64 n).toNat=(n % 18446744073709551616).toNat:=by
 rw[BitVec.toNat_ofInt];rfl
theorem FI (n:Int):bits .and .i64 n 2047=n % 2048:=by
 show IntKind.i64.wrap ((BitVec.ofInt 64 n &&& BitVec.ofInt 64 2047).toNat:Int)=_
 rw[BitVec.toNat_and,lV,lV,IntKind.wrap_i64,show((2047:Int) % 18446744073709551616).toNat=2047 by decide];have:(n % 18446744073709551616).toNat &&& 2047=(n % 18446744073709551616).toNat % 2048:=Nat.and_two_pow_sub_one_eq_mod _ 11;rw[this];omega
theorem Cw (n:Int) (h1:-9223372036854775808≤n) (h2:n<9223372036854775808):bits .andNot .i64 n 2047=n-n % 2048:=by
 show IntKind.i64.wrap ((BitVec.ofInt 64 n &&&~~~BitVec.ofInt 64 2047).toNat:Int)=_
 rw[BitVec.toNat_and,BitVec.toNat_not,lV,lV,IntKind.wrap_i64,show((2047:Int) % 18446744073709551616).toNat=2047 by decide,show 2^64-1-2047=18446744073709549568 by decide,nat_hi64_11];omega
theorem fQ (n:Int) (w:World) (h1:-9223372036854775808≤n) (h2:n<9223372036854775808):
  aw 128 #[iV n] w (.agg #[fV (wholeLo n),fV (wholeHi n)]):=by
 have HL:Hid (floatOfInt FloatKind.f64 (bits BinOp.and IntKind.i64 n 2047)=fd 0 (n % 2048)):=by show _=_;rw[FI];rfl
 have HH:Hid (floatOfInt FloatKind.f64 (bits BinOp.andNot IntKind.i64 n 2047)=fd 0 (n-n % 2048)):=by show _=_;rw[Cw n h1 h2];rfl
 have HS:Hid (∀w,aw 89 #[fV (fd 0 (n-n % 2048)),fV (fd 0 (n % 2048))] w (.agg #[fV (wholeLo n),fV (wholeHi n)])):=by
  intro w;have p63:(2:Nat)^63=9223372036854775808:=by decide
  exact Cf n _ _ w (by rw[p63];omega) (by omega) (by rw[p63];omega) (by omega) (by omega)
 clear h1 h2;go_enter Tryz.func128,Tryz.ntmps128;go_wp2_with fail;rw[HL.out,HH.out];refine (HS.out _).mono ?_;rintro e w1 ⟨rfl,hb1⟩;have B0:=aa (af w _) hb1;obtain⟨k0,k1,k2,k3⟩:=aj B0;have hz:=(Array.getElem?_eq_some_iff.1 B0).1;have HB1:=hid (aJ.trans (hb1.mono (by simp)));have HB0:=hid B0;clear hb1 B0 HS HL HH;go_wp2;obtain⟨c10,c11,-,-⟩:=aj (ai (aA (a:=fV (wholeLo n)) (b:=fV (wholeHi n)) HB0.out) (.cells #[fV (wholeLo n),fV (wholeHi n)] 130));refine bodyPost_ret (v:= .agg #[fV (wholeLo n),fV (wholeHi n)]) (by simp[results,Tryz.results128,go_sem,c10,c11]) rfl ?_;exact⟨rfl,((HB1.out.setCell (by simp) _).setCell (by simp) _).alloc (by have:=HB1.out.size;simpa using this) _⟩
end
section
open Go.RowKit Go.Extern Ieee
attribute [local go_sem] av
theorem Ay (w:World):ax 127 #[] w fun e w'=>e= .returned (.bool false)∧w'=w:=by
 go_enter Tryz.func127,Tryz.ntmps127;go_wp2
 go_ret
 exact⟨rfl,rfl⟩
theorem wu (w:World):ax 129 #[] w fun e w'=>e= .returned (.bool false)∧w'=w:=by
 go_enter Tryz.func129,Tryz.ntmps129;go_wp2
 go_ret
 exact⟨rfl,rfl⟩
theorem wz (w:World):ax 130 #[] w fun e w'=>e= .returned (.bool false)∧w'=w:=by
 go_enter Tryz.func130,Tryz.ntmps130;go_wp2
 go_ret
 exact⟨rfl,rfl⟩
theorem wZ (w:World):ax 132 #[] w fun e w'=>e= .returned (.bool false)∧w'=w:=by
 go_enter Tryz.func132,Tryz.ntmps132;go_wp2
 go_ret
 exact⟨rfl,rfl⟩
theorem E6:floatOfInt FloatKind.f64 1=4607182418800017408:=by kernel_rfl
theorem Cs:floatBits .quo .f64 4607182418800017408 4611686018427387904=some 4602678819172646912:=by kernel_rfl
theorem zu:(FloatKind.f64.format.order 4602678819172646912 0 !=some Ordering.eq)=true:=by kernel_rfl
theorem tC (w:World):ax 131 #[] w fun e w'=>e= .returned (.bool true)∧w'=w:=by
 have g:∀w,(binOp .quo 65 (fV 4607182418800017408) (fV 4611686018427387904)).run Tryz.prog w= .ok (fV 4602678819172646912) w:=fun w=>run_float_arith w .quo _ .f64 _ _ _ Cs
 have o:=E6;have hn:=zu;go_enter Tryz.func131,Tryz.ntmps131;go_wp2
 go_ret
 exact⟨rfl,rfl⟩
theorem yp (w:World):ax 133 #[] w fun e w'=>e= .returned (.bool true)∧w'=w:=by
 have g:∀w,(binOp .quo 117 (fV 4607182418800017408) (fV 4611686018427387904)).run Tryz.prog w= .ok (fV 4602678819172646912) w:=fun w=>run_float_arith w .quo _ .f64 _ _ _ Cs
 have o:=E6;have hn:=zu;go_enter Tryz.func133,Tryz.ntmps133;go_wp2
 go_ret
 exact⟨rfl,rfl⟩
theorem Cb (x:Int) (w:World) (h1:-9223372036854775808≤x) (h2:x<9223372036854775808):
  aw 72 #[iV x] w (.tuple #[.agg #[fV (wholeLo x),fV (wholeHi x)],.nilIface]):=by
 have HA:=hid (fun(w:World)=>fQ x w h1 h2);have hw:wrap64 x=x:=by unfold wrap64;omega
 clear h1 h2;go_enter Tryz.func72,Tryz.ntmps72;go_wp2_with fail;refine(Ay _).mono ?_;rintro e w' ⟨rfl,rfl⟩;go_wp2_with fail;refine (HA.out _).mono ?_;rintro e w1 ⟨rfl,hb1⟩;have B0:=aa (af w _) hb1;obtain⟨k0,k1,k2,k3⟩:=aj B0;have HB1:=hid (aJ.trans (hb1.mono (by simp)));have HB0:=hid B0;clear hb1 B0 HA;go_wp2;refine bodyPost_ret (v:= .tuple #[.agg #[fV (wholeLo x),fV (wholeHi x)],.nilIface]) (by simp[results,Tryz.results72,go_sem,k0,k1]) rfl ?_;exact⟨rfl,(HB1.out.setCell (by simp) _).setCell (by simp) _⟩
theorem yu (x:Int) (w:World) (h1:-9223372036854775808≤x) (h2:x<9223372036854775808):
  aw 73 #[.int .i32 x] w (.tuple #[.agg #[fV (wholeLo x),fV (wholeHi x)],.nilIface]):=by
 have HA:=hid (fun(w:World)=>fQ x w h1 h2);have hw:wrap64 x=x:=by unfold wrap64;omega
 clear h1 h2;go_enter Tryz.func73,Tryz.ntmps73;go_wp2_with fail;refine(wu _).mono ?_;rintro e w' ⟨rfl,rfl⟩;go_wp2_with fail;refine (HA.out _).mono ?_;rintro e w1 ⟨rfl,hb1⟩;have B0:=aa (af w _) hb1;obtain⟨k0,k1,k2,k3⟩:=aj B0;have HB1:=hid (aJ.trans (hb1.mono (by simp)));have HB0:=hid B0;clear hb1 B0 HA;go_wp2;refine bodyPost_ret (v:= .tuple #[.agg #[fV (wholeLo x),fV (wholeHi x)],.nilIface]) (by simp[results,Tryz.results73,go_sem,k0,k1]) rfl ?_;exact⟨rfl,(HB1.out.setCell (by simp) _).setCell (by simp) _⟩
theorem yt (x:Int) (w:World) (h1:-9223372036854775808≤x) (h2:x<9223372036854775808):
  aw 74 #[iV x] w (.tuple #[.agg #[fV (wholeLo x),fV (wholeHi x)],.nilIface]):=by
 have HA:=hid (fun(w:World)=>fQ x w h1 h2);have hw:wrap64 x=x:=by unfold wrap64;omega
 clear h1 h2;go_enter Tryz.func74,Tryz.ntmps74;go_wp2_with fail;refine(wz _).mono ?_;rintro e w' ⟨rfl,rfl⟩;go_wp2_with fail;refine (HA.out _).mono ?_;rintro e w1 ⟨rfl,hb1⟩;have B0:=aa (af w _) hb1;obtain⟨k0,k1,k2,k3⟩:=aj B0;have HB1:=hid (aJ.trans (hb1.mono (by simp)));have HB0:=hid B0;clear hb1 B0 HA;go_wp2;refine bodyPost_ret (v:= .tuple #[.agg #[fV (wholeLo x),fV (wholeHi x)],.nilIface]) (by simp[results,Tryz.results74,go_sem,k0,k1]) rfl ?_;exact⟨rfl,(HB1.out.setCell (by simp) _).setCell (by simp) _⟩
theorem yA (x:Int) (w:World) (h1:-9223372036854775808≤x) (h2:x<9223372036854775808):
  aw 76 #[.int .i32 x] w (.tuple #[.agg #[fV (wholeLo x),fV (wholeHi x)],.nilIface]):=by
 have HA:=hid (fun(w:World)=>fQ x w h1 h2);have hw:wrap64 x=x:=by unfold wrap64;omega
 clear h1 h2;go_enter Tryz.func76,Tryz.ntmps76;go_wp2_with fail;refine(wZ _).mono ?_;rintro e w' ⟨rfl,rfl⟩;go_wp2_with fail;refine (HA.out _).mono ?_;rintro e w1 ⟨rfl,hb1⟩;have B0:=aa (af w _) hb1;obtain⟨k0,k1,k2,k3⟩:=aj B0;have HB1:=hid (aJ.trans (hb1.mono (by simp)));have HB0:=hid B0;clear hb1 B0 HA;go_wp2;refine bodyPost_ret (v:= .tuple #[.agg #[fV (wholeLo x),fV (wholeHi x)],.nilIface]) (by simp[results,Tryz.results76,go_sem,k0,k1]) rfl ?_;exact⟨rfl,(HB1.out.setCell (by simp) _).setCell (by simp) _⟩
end
section
open Go.RowKit Go.Extern Ieee
attribute [local go_sem] av
theorem uP (A:Nat→Addr) (b:Nat) (w:World) (hb:b<18446744073709551616) (hS:aE A w):
  ax 75 #[fV b] w fun e w'=>kJ A b b w e w':=by
 have HB:=hid hb;have HS:=hid hS;clear hb hS;go_enter Tryz.func75,Tryz.ntmps75;go_wp2_with fail;refine(tC _).mono ?_;rintro e w' ⟨rfl,rfl⟩;go_wp2_with fail;refine(iT A b b _ HB.out HB.out (HS.out.alloc _)).mono ?_;rintro e w1 ⟨rfl,hb1⟩;have B0:=aa (af w _) hb1;obtain⟨k0,k1,k2,k3⟩:=aj B0;have HB1:=hid (aJ.trans (hb1.mono (by simp)));clear hb1 B0 HS;go_wp2;refine bodyPost_ret (v:= .tuple #[.agg #[fV (makeN b b).1,fV (makeN b b).2.1],m8 A (makeN b b).2.2]) (by simp[results,Tryz.results75,go_sem,k0,k1]) rfl ?_;exact⟨rfl,(HB1.out.setCell (by simp) _).setCell (by simp) _⟩
theorem A2 (A:Nat→Addr) (b:Nat) (w:World) (hb:b<18446744073709551616) (hS:aE A w):
  ax 77 #[fV b] w fun e w'=>kJ A b b w e w':=by
 have HB:=hid hb;have HS:=hid hS;clear hb hS;go_enter Tryz.func77,Tryz.ntmps77;go_wp2_with fail;refine(yp _).mono ?_;rintro e w' ⟨rfl,rfl⟩;go_wp2_with fail;refine(iT A b b _ HB.out HB.out (HS.out.alloc _)).mono ?_;rintro e w1 ⟨rfl,hb1⟩;have B0:=aa (af w _) hb1;obtain⟨k0,k1,k2,k3⟩:=aj B0;have HB1:=hid (aJ.trans (hb1.mono (by simp)));clear hb1 B0 HS;go_wp2;refine bodyPost_ret (v:= .tuple #[.agg #[fV (makeN b b).1,fV (makeN b b).2.1],m8 A (makeN b b).2.2]) (by simp[results,Tryz.results77,go_sem,k0,k1]) rfl ?_;exact⟨rfl,(HB1.out.setCell (by simp) _).setCell (by simp) _⟩
end
section
open Go.RowKit Go.Extern Ieee
attribute [local go_sem] av
theorem oP (k x y:Int) (w:World) (h1:-9223372036854775808≤y) (h2:y<9223372036854775808) (h:k=0∧y=x∨k=2∧y=x∨k=1∧wrap32 x=y∨k=4∧wrap32 x=y):
  aw 32 #[iV k,iV x] w (.tuple #[.agg #[uV (wholeLo y:Int),uV (wholeHi y:Int)],iV 0]):=by
 have HY:=hid (And.intro h1 h2);clear h1 h2;rcases h with⟨rfl,rfl⟩|⟨rfl,rfl⟩|⟨rfl,e⟩|⟨rfl,e⟩<;>
 (
  try(have HE:Hid (wrap32 x=y):=e;clear e)
  go_enter Tryz.func32,Tryz.ntmps32;go_wp2_with fail;have B0:=ai (af w (.cells #[uV 0,uV 0] 33)) (.cells #[fV 0,fV 0] 67);have B1:=af (w.alloc (.cells #[uV 0,uV 0] 33)) (.cells #[fV 0,fV 0] 67);have hW:Below w.heap.size w ((w.alloc (.cells #[uV 0,uV 0] 33)).alloc (.cells #[fV 0,fV 0] 67)):=aJ.alloc (by simp) _;simp only[World.size_alloc] at B1;generalize((w.alloc (.cells #[uV 0,uV 0] 33)).alloc (.cells #[fV 0,fV 0] 67))=W2 at*
  first|with_reducible refine(Cb y _ HY.out.1 HY.out.2).mono ?_|with_reducible refine(yt y _ HY.out.1 HY.out.2).mono ?_|refine(yu (wrap32 x) _ (by rw[HE.out];exact HY.out.1) (by rw[HE.out];exact HY.out.2)).mono ?_|refine(yA (wrap32 x) _ (by rw[HE.out];exact HY.out.1) (by rw[HE.out];exact HY.out.2)).mono ?_
  rintro e w1 ⟨rfl,hb1⟩
  try rw[HE.out]
  have B0:=aa B0 hb1;have B1:=aa B1 hb1;have hb2:=hW.trans (hb1.mono hW.size);have hz:=(Array.getElem?_eq_some_iff.1 B1).1;obtain⟨k0,k1,k2,k3⟩:=aj B1;have HB0:=hid B0;have HB1:=hid B1;have Hb2:=hid hb2;clear hb1 hb2 B0 B1 hW;go_wp2_with fail;have B2:=aA (a:=fV (wholeLo y)) (b:=fV (wholeHi y)) HB1.out;have B3:((w1.setCell ⟨w.heap.size+1,0,none⟩ (fV (wholeLo y))).setCell ⟨w.heap.size+1,1,none⟩ (fV (wholeHi y))).heap[w.heap.size]?=_:=aG (aG HB0.out (by omega)) (by omega);have hb4:Below w.heap.size w ((w1.setCell ⟨w.heap.size+1,0,none⟩ (fV (wholeLo y))).setCell ⟨w.heap.size+1,1,none⟩ (fV (wholeHi y))):=(Hb2.out.setCell (by simp) _).setCell (by simp) _;clear k0 k1 k2 k3 HB0 HB1 Hb2 hz;generalize((w1.setCell ⟨w.heap.size+1,0,none⟩ (fV (wholeLo y))).setCell ⟨w.heap.size+1,1,none⟩ (fV (wholeHi y)))=W3 at*;refine(m7 _).mono ?_;rintro e w4 ⟨rfl,rfl⟩;have hb5:Below w4.heap.size w4 w4:=Below.refl _ _;have B2:=aa B2 hb5;have B3:=aa B3 hb5;have Hb6:=hid (hb4.trans (hb5.mono hb4.size));obtain⟨k0,k1,-,-⟩:=aj B2;have HB3:=hid B3;clear B2 B3 hb4 hb5;go_wp2_with fail;refine(gR (wholeLo y) (wholeHi y) _).mono ?_;rintro e w5 ⟨rfl,hb7⟩;obtain⟨k10,k11,k12,k13⟩:=aj (aa HB3.out hb7);have Hb8:=hid (Hb6.out.trans (hb7.mono Hb6.out.size));clear hb7 HB3 Hb6 k0 k1;go_wp2;refine bodyPost_ret (v:= .tuple #[.agg #[uV ((wholeLo y):Int),uV ((wholeHi y):Int)],iV 0]) (by simp[results,Tryz.results32,go_sem,k10,k11]) rfl ?_;exact⟨rfl,(Hb8.out.setCell (by simp) _).setCell (by simp) _⟩)
theorem Ab (lo hi:Nat):(makeN lo hi).2.2≤2:=by
 unfold makeN;split
 ·decide
 ·split<;>simp
theorem wE (A:Nat→Addr) (k x:Int) (b:Nat) (w:World) (hx:IntKind.u64.wrap x=(b:Int)) (hb:b<18446744073709551616) (hS:aE A w) (h:k=3∨k=5):
  aw 32 #[iV k,iV x] w (.tuple #[.agg #[uV ((makeN b b).1:Int),uV ((makeN b b).2.1:Int)],iV ((makeN b b).2.2:Int)]):=by
 have HX:=hid hx;have HB:=hid hb;have HS:=hid hS;clear hx hb hS;rcases h with rfl|rfl<;>
 (
  go_enter Tryz.func32,Tryz.ntmps32;go_wp2_with fail;rw[HX.out];refine(ka b _).mono ?_;rintro e w' ⟨rfl,rfl⟩;go_wp2_with fail;have B0:=ai (af w (.cells #[uV 0,uV 0] 33)) (.cells #[fV 0,fV 0] 67);have B1:=af (w.alloc (.cells #[uV 0,uV 0] 33)) (.cells #[fV 0,fV 0] 67);have hW:Below w.heap.size w ((w.alloc (.cells #[uV 0,uV 0] 33)).alloc (.cells #[fV 0,fV 0] 67)):=aJ.alloc (by simp) _;simp only[World.size_alloc] at B1;generalize((w.alloc (.cells #[uV 0,uV 0] 33)).alloc (.cells #[fV 0,fV 0] 67))=W2 at*
  first|with_reducible refine(uP A b _ HB.out (HS.out.below hW ae)).mono ?_|with_reducible refine(A2 A b _ HB.out (HS.out.below hW ae)).mono ?_
  rintro e w1 ⟨rfl,hb1⟩;have B0:=aa B0 hb1;have B1:=aa B1 hb1;have hb2:=hW.trans (hb1.mono hW.size);have hz:=(Array.getElem?_eq_some_iff.1 B1).1;obtain⟨k0,k1,k2,k3⟩:=aj B1;have HB0:=hid B0;have HB1:=hid B1;have Hb2:=hid hb2;clear hb1 hb2 B0 B1 hW;go_wp2_with fail;have B2:=aA (a:=fV (makeN b b).1) (b:=fV (makeN b b).2.1) HB1.out;have B3:((w1.setCell ⟨w.heap.size+1,0,none⟩ (fV (makeN b b).1)).setCell ⟨w.heap.size+1,1,none⟩ (fV (makeN b b).2.1)).heap[w.heap.size]?=_:=aG (aG HB0.out (by omega)) (by omega);have hb4:Below w.heap.size w ((w1.setCell ⟨w.heap.size+1,0,none⟩ (fV (makeN b b).1)).setCell ⟨w.heap.size+1,1,none⟩ (fV (makeN b b).2.1)):=(Hb2.out.setCell (by simp) _).setCell (by simp) _;clear k0 k1 k2 k3 HB0 HB1 Hb2 hz;generalize((w1.setCell ⟨w.heap.size+1,0,none⟩ (fV (makeN b b).1)).setCell ⟨w.heap.size+1,1,none⟩ (fV (makeN b b).2.1))=W3 at*;have hS5:=HS.out.below hb4 ae;refine(tK A (makeN b b).2.2 _ (by have:=Ab b b;omega) hS5).mono ?_;rintro e w4 ⟨rfl,hb5⟩;have B2:=aa B2 hb5;have B3:=aa B3 hb5;have Hb6:=hid (hb4.trans (hb5.mono hb4.size));obtain⟨k0,k1,-,-⟩:=aj B2;have HB3:=hid B3;clear B2 B3 hb4 hb5;go_wp2_with fail;refine(gR (makeN b b).1 (makeN b b).2.1 _).mono ?_;rintro e w5 ⟨rfl,hb7⟩;obtain⟨k10,k11,k12,k13⟩:=aj (aa HB3.out hb7);have Hb8:=hid (Hb6.out.trans (hb7.mono Hb6.out.size));clear hb7 HB3 Hb6 k0 k1;go_wp2;refine bodyPost_ret (v:= .tuple #[.agg #[uV ((makeN b b).1:Int),uV ((makeN b b).2.1:Int)],iV ((makeN b b).2.2:Int)]) (by simp[results,Tryz.results32,go_sem,k10,k11]) rfl ?_;exact⟨rfl,(Hb8.out.setCell (by simp) _).setCell (by simp) _⟩)
theorem sA (k x:Int) (w:World) (hk:k≠0∧k≠1∧k≠2∧k≠3∧k≠4∧k≠5):
  aw 32 #[iV k,iV x] w (.tuple #[.agg #[uV 0,uV 0],iV 0]):=by
 obtain⟨h0,h1,h2,h3,h4,h5⟩:=hk;have t0:(k==0)=false:=by rw[beq_eq_false_iff_ne];exact h0
 have t1:(k==1)=false:=by rw[beq_eq_false_iff_ne];exact h1
 have t2:(k==2)=false:=by rw[beq_eq_false_iff_ne];exact h2
 have t3:(k==3)=false:=by rw[beq_eq_false_iff_ne];exact h3
 have t4:(k==4)=false:=by rw[beq_eq_false_iff_ne];exact h4
 have t5:(k==5)=false:=by rw[beq_eq_false_iff_ne];exact h5
 clear h0 h1 h2 h3 h4 h5;go_enter Tryz.func32,Tryz.ntmps32;go_wp2_with fail;have B0:=ai (af w (.cells #[uV 0,uV 0] 33)) (.cells #[fV 0,fV 0] 67);have B1:=af (w.alloc (.cells #[uV 0,uV 0] 33)) (.cells #[fV 0,fV 0] 67);have hW:Below w.heap.size w ((w.alloc (.cells #[uV 0,uV 0] 33)).alloc (.cells #[fV 0,fV 0] 67)):=aJ.alloc (by simp) _;simp only[World.size_alloc] at B1;generalize((w.alloc (.cells #[uV 0,uV 0] 33)).alloc (.cells #[fV 0,fV 0] 67))=W2 at*;refine(m7 _).mono ?_;rintro e w4 ⟨rfl,rfl⟩;obtain⟨k0,k1,k2,k3⟩:=aj B1;have HB3:=hid B0;have Hb6:=hid hW;clear B0 B1 hW;go_wp2_with fail;refine(gR 0 0 _).mono ?_;rintro e w5 ⟨rfl,hb7⟩;obtain⟨k10,k11,k12,k13⟩:=aj (aa HB3.out hb7);have Hb8:=hid (Hb6.out.trans (hb7.mono Hb6.out.size));clear hb7 HB3 Hb6 k0 k1 k2 k3;go_wp2;refine bodyPost_ret (v:= .tuple #[.agg #[uV 0,uV 0],iV 0]) (by simp[results,Tryz.results32,go_sem,k10,k11]) rfl ?_;exact⟨rfl,(Hb8.out.setCell (by simp) _).setCell (by simp) _⟩
end
end Go.Proofs.YtonhpkigoplmaaaGreatDoor
