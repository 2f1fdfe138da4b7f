import Derived.Test.YtonhpkigoplmaaaGreatDoorZ12
import Derived.Test.YtonhpkigoplmaaaGreatDoorZ16
import Derived.Test.YtonhpkigoplmaaaGreatDoorZ17
set_option maxRecDepth 100000
set_option maxHeartbeats 40000000
namespace Go.Proofs.YtonhpkigoplmaaaGreatDoor
section
open Go.RowKit Go.Extern Ieee
structure Sm (x:ap):Prop where
 b:bl x.2.1≤10000
 l:-10000≤x.2.2
 u:x.2.2≤10000
theorem Sm.small {x:ap} (h:Sm x):cV x:=⟨by have:=h.b;omega,by have:=h.l;omega,by have:=h.u;omega⟩
theorem Sm.len {x:ap} (h:Sm x):(digits x.2.1).length≤1000:=by have:=eG x.2.1;have:=h.b;omega
theorem Sm.both {x:ap} (h:Sm x):cV x∧(digits x.2.1).length≤400000:=⟨h.small,by have:=h.len;omega⟩
structure Pl (x:ap):Prop where
 n:x.2.1<9007199254740992
 l:-952≤x.2.2
 u:x.2.2≤848
theorem ct {b:Nat} {x:ap} (h:au b=some x):Pl x:=by
 rcases cD h with h|⟨h1,h2,h3,h4⟩
 ·subst h;exact⟨by decide,by decide,by decide⟩
 ·exact⟨h2,h3,h4⟩
theorem Pl.bits {x:ap} (h:Pl x):bl x.2.1≤53:=bQ (by rw[p53];exact h.n)
theorem Pl.sm {x:ap} (h:Pl x):Sm x:=⟨by have:=h.bits;omega,by have:=h.l;omega,by have:=h.u;omega⟩
theorem Pl.neg {x:ap} (h:Pl x):Pl (bC x):=⟨h.n,h.l,h.u⟩
theorem ns:bl 0=0:=i8
theorem jD {n m:Nat} (h:n≤m):bl n≤bl m:=by
 by_cases h0:n=0
 ·subst h0;rw[ns];exact Nat.zero_le _
 ·exact zH h0 h
theorem nu (n:Nat):n<2^bl n:=by
 rcases Nat.eq_zero_or_pos n with h|h
 ·subst h;exact Nat.two_pow_pos _
 ·exact(bt h).2.1
theorem je (n k:Nat):bl (n*2^k)≤bl n+k:=bQ (by rw[Nat.pow_add];exact Nat.mul_lt_mul_of_pos_right (nu n) (Nat.two_pow_pos k))
theorem yW (m n:Nat):bl (m*n)≤bl m+bl n:=bQ (by rw[Nat.pow_add];exact Nat.mul_lt_mul'' (nu m) (nu n))
theorem yQ {a b M:Nat} (ha:bl a≤M) (hb:bl b≤M):bl (a+b)≤M+1:=by
 refine bQ ?_;have h1:=Nat.lt_of_lt_of_le (nu a) (Nat.pow_le_pow_right (by decide) ha);have h2:=Nat.lt_of_lt_of_le (nu b) (Nat.pow_le_pow_right (by decide) hb);rw[Nat.pow_succ];omega
theorem Pl.sum {x y:ap} (hx:Pl x) (hy:Pl y):Sm (sumT x y):=by
 obtain⟨s,n,e⟩:=x;obtain⟨t,m,f⟩:=y;have b1:=hx.bits;have b2:=hy.bits;have l1:=hx.l;have l2:=hy.l;have u1:=hx.u;have u2:=hy.u;simp only at b1 b2 l1 l2 u1 u2
 have a1:bl (lvA n e f)≤2000:=by
  have:=je n (e-min e f).toNat
  unfold lvA;omega
 have a2:bl (lvB m e f)≤2000:=by
  have:=je m (f-min e f).toNat
  unfold lvB;omega
 have a3:=yQ a1 a2;have a4:=jD (Nat.sub_le (lvA n e f) (lvB m e f));have a5:=jD (Nat.sub_le (lvB m e f) (lvA n e f))
 show Sm (sumN s n e t m f)
 unfold sumN;split
 ·exact⟨by simp only;omega,by simp only;omega,by simp only;omega⟩
 ·split
  ·exact⟨by simp only;rw[ns];omega,by simp only;omega,by simp only;omega⟩
  ·split
   ·exact⟨by simp only;omega,by simp only;omega,by simp only;omega⟩
   ·exact⟨by simp only;omega,by simp only;omega,by simp only;omega⟩
theorem Pl.prod {x y:ap} (hx:Pl x) (hy:Pl y):Sm (aT x y):=by
 have b1:=hx.bits;have b2:=hy.bits;have l1:=hx.l;have l2:=hy.l;have u1:=hx.u;have u2:=hy.u;have:=yW x.2.1 y.2.1;unfold aT;exact⟨by simp only;omega,by simp only;omega,by simp only;omega⟩
theorem zx {q:Nat} {w:Bool} {M:Nat} (h:bl q≤M):bl (2*q+(if w then 0 else 1))≤M+1:=by
 refine bQ ?_;have h1:=Nat.lt_of_lt_of_le (nu q) (Nat.pow_le_pow_right (by decide) h);rw[Nat.pow_succ]
 cases w<;>simp<;>omega
theorem Pl.quo {x y:ap} (hx:Pl x) (hy:Pl y):Sm (quoN x y):=by
 have b1:=hx.bits;have b2:=hy.bits;have l1:=hx.l;have l2:=hy.l;have u1:=hx.u;have u2:=hy.u;have h1:=je x.2.1 (60+bl y.2.1);have h2:=jD (Nat.div_le_self (x.2.1*2^(60+bl y.2.1)) y.2.1);have h3:=zx (q:=x.2.1*2^(60+bl y.2.1) / y.2.1) (w:=decide (x.2.1*2^(60+bl y.2.1) % y.2.1=0)) ae;unfold quoN gT;exact⟨by simp only;omega,by simp only;omega,by simp only;omega⟩
theorem Pl.root {x:ap} (hx:Pl x):Sm (eR x):=by
 have b1:=hx.bits;have l1:=hx.l;have u1:=hx.u;have hk:rk 130 x.2.2≤131:=by unfold rk;split<;>omega
 have h1:=je x.2.1 (rk 130 x.2.2);have h0:=(jL (x.2.1*2^rk 130 x.2.2)).1;have h2:=Nat.le_trans (Nat.le_mul_self _) h0;have h3:=jD h2;have h4:=zx (q:=isq (x.2.1*2^rk 130 x.2.2)) (w:=decide (isq (x.2.1*2^rk 130 x.2.2)*isq (x.2.1*2^rk 130 x.2.2)=x.2.1*2^rk 130 x.2.2)) ae;unfold eR gT;exact⟨by simp only;omega,by simp only;omega,by simp only;omega⟩
theorem pC (x:ap) (way:Int):(sgnI x.1 x.2.1<0↔ar x way<0)∧(0<sgnI x.1 x.2.1↔0<ar x way)∧(x.2.1=0↔ar x way=0):=by
 obtain⟨s,n,e⟩:=x;have c:=cP (endR s n e way);unfold sgnI ar;simp only;by_cases h0:n=0
 ·rw[if_pos h0,if_pos h0];simp[h0]
 ·rw[if_neg h0,if_neg h0];unfold sgI
  cases s
  ·rw[if_neg Bool.false_ne_true,if_neg Bool.false_ne_true];omega
  ·rw[if_pos rfl,if_pos rfl];omega
theorem lu {x y:ap} (sx:Sm x) (sy:Sm y) (W:World) (o0 o1:Option Addr) (l0 l1 c0 c1:Nat) (h0:l0=(digits x.2.1).length) (h1:l1=(digits y.2.1).length) (n0:aq W (.slice o0 l0 c0) x.2.1) (n1:aq W (.slice o1 l1 c1) y.2.1):
  aw 62 #[.agg #[.bool x.1,.slice o0 l0 c0,iV x.2.2],.agg #[.bool y.1,.slice o1 l1 c1,iV y.2.2]] W (.tuple #[.agg #[uV ((az x y).1:Int),uV ((az x y).2.1:Int)],iV ((az x y).2.2:Int)]):=
 eJ _ _ x y W ⟨o0,l0,c0,rfl,h0,n0⟩ ⟨o1,l1,c1,rfl,h1,n1⟩ sx.small sy.small
theorem Bc {q0 q1 q2 q3:ap} (s0:Sm q0) (s1:Sm q1) (s2:Sm q2) (s3:Sm q3) (g:Nat) (W:World) (o0 o1 o2 o3:Option Addr) (l0 l1 l2 l3 c0 c1 c2 c3:Nat)
  (hg:W.heap[g]?=some (.cells #[.bool q0.1,.slice o0 l0 c0,iV q0.2.2,.bool q1.1,.slice o1 l1 c1,iV q1.2.2,.bool q2.1,.slice o2 l2 c2,iV q2.2.2,.bool q3.1,.slice o3 l3 c3,iV q3.2.2] 92 (0,0)))
  (e0:l0=(digits q0.2.1).length) (e1:l1=(digits q1.2.1).length) (e2:l2=(digits q2.2.1).length) (e3:l3=(digits q3.2.1).length) (n0:aq W (.slice o0 l0 c0) q0.2.1) (n1:aq W (.slice o1 l1 c1) q1.2.1) (n2:aq W (.slice o2 l2 c2) q2.2.1) (n3:aq W (.slice o3 l3 c3) q3.2.1):
  aw 63 #[.slice (some ⟨g,0,none⟩) 4 4] W (.tuple #[.agg #[uV ((ez q0 q1 q2 q3).1:Int),uV ((ez q0 q1 q2 q3).2.1:Int)],iV ((ez q0 q1 q2 q3).2.2:Int)]):=
 wA g _ _ _ _ W (zm hg e0 e1 e2 e3 n0 n1 n2 n3 s0.both s1.both s2.both s3.both)
theorem kH {x y:ap} (sx:Sm x) (sy:Sm y) (W:World) (po qo:Option Addr) (lp cp lq cq:Nat) (h0:lp=(digits x.2.1).length) (n0:aq W (.slice po lp cp) x.2.1) (h1:lq=(digits y.2.1).length) (n1:aq W (.slice qo lq cq) y.2.1):
  ax 65 #[.agg #[.bool x.1,.slice po lp cp,iV x.2.2],.agg #[.bool y.1,.slice qo lq cq,iV y.2.2]] W fun ev w''=>∃vo vl vc,ev= .returned (.agg #[.bool (sumT x y).1,.slice vo vl vc,iV (sumT x y).2.2])∧vl=(digits (sumT x y).2.1).length∧aq w'' (.slice vo vl vc) (sumT x y).2.1∧Below W.heap.size W w'':=by
 have a:=sx.len;have b:=sy.len;have c:=sx.l;have d:=sx.u;have e:=sy.l;have f:=sy.u;refine(yM _ _ x.1 y.1 x.2.1 y.2.1 x.2.2 y.2.2 W ⟨po,lp,cp,rfl,h0,n0⟩ ⟨qo,lq,cq,rfl,h1,n1⟩ (by omega) (by omega) (by omega) (by omega) (by omega) (by omega)).mono ?_;rintro ev w'' ⟨v,rfl,⟨vo,vl,vc,rfl,h2,h3⟩,h4⟩;exact⟨vo,vl,vc,rfl,h2,h3,h4⟩
theorem kU {x y:ap} (sx:Sm x) (sy:Sm y) (W:World) (po qo:Option Addr) (lp cp lq cq:Nat) (h0:lp=(digits x.2.1).length) (n0:aq W (.slice po lp cp) x.2.1) (h1:lq=(digits y.2.1).length) (n1:aq W (.slice qo lq cq) y.2.1):
  ax 67 #[.agg #[.bool x.1,.slice po lp cp,iV x.2.2],.agg #[.bool y.1,.slice qo lq cq,iV y.2.2]] W fun ev w''=>∃vo vl vc,ev= .returned (.agg #[.bool (aT x y).1,.slice vo vl vc,iV (aT x y).2.2])∧vl=(digits (aT x y).2.1).length∧aq w'' (.slice vo vl vc) (aT x y).2.1∧Below W.heap.size W w'':=by
 have a:=sx.len;have b:=sy.len;have c:=sx.l;have d:=sx.u;have e:=sy.l;have f:=sy.u;refine(ym _ _ x.1 y.1 x.2.1 y.2.1 x.2.2 y.2.2 W ⟨po,lp,cp,rfl,h0,n0⟩ ⟨qo,lq,cq,rfl,h1,n1⟩ (by omega) (by omega) (by omega) (by omega) (by omega) (by omega)).mono ?_;rintro ev w'' ⟨v,rfl,⟨vo,vl,vc,rfl,h2,h3⟩,h4⟩;exact⟨vo,vl,vc,rfl,h2,h3,h4⟩
theorem Ck {x:ap} (sx:Sm x) (W:World) (po:Option Addr) (lp cp:Nat) (h0:lp=(digits x.2.1).length) (n0:aq W (.slice po lp cp) x.2.1):
  ax 70 #[.agg #[.bool x.1,.slice po lp cp,iV x.2.2]] W fun ev w''=>∃vo vl vc,ev= .returned (.agg #[.bool (eR x).1,.slice vo vl vc,iV (eR x).2.2])∧vl=(digits (eR x).2.1).length∧aq w'' (.slice vo vl vc) (eR x).2.1∧Below W.heap.size W w'':=by
 have a:=sx.len;have c:=sx.l;have d:=sx.u;refine(Az _ x.1 x.2.1 x.2.2 W ⟨po,lp,cp,rfl,h0,n0⟩ (by omega) (by omega) (by omega)).mono ?_;rintro ev w'' ⟨v,c,rfl,hc,⟨vo,vl,vc,rfl,h2,h3⟩,h4⟩;rw[←AB hc];exact⟨vo,vl,vc,rfl,h2,h3,h4⟩
theorem u7 {x y:ap} (sx:Sm x) (sy:Sm y) (h0:y.2.1≠0) (u v:Value) (W:World) (hu:aM W u x.1 x.2.1 x.2.2) (hv:aM W v y.1 y.2.1 y.2.2):
  ax 122 #[u,v] W fun ev w''=>∃z,ev= .returned z∧aM w'' z (quoN x y).1 (quoN x y).2.1 (quoN x y).2.2∧Below W.heap.size W w'':=by
 have a:=sx.len;have b:=sy.len;have c:=sx.l;have d:=sx.u;have e:=sy.l;have f:=sy.u;rw[←Cy];exact wG _ _ x.1 y.1 x.2.1 y.2.1 x.2.2 y.2.2 W hu hv (by omega) (by omega) (by omega) (by omega) (by omega) (by omega) (by omega)
theorem zY {l h:Nat} (i:Iv l h) (hz:holdsT (plT l) (plT h)=false):(plT l).2.1≠0∧(plT h).2.1≠0:=by
 have a:=pC (plT l) 1;have b:=pC (plT h) 1;rw[i.v1 1] at a;rw[i.v2 1] at b;have hl:=i.le;unfold holdsT at hz;rw[Bool.and_eq_false_iff,decide_eq_false_iff_not,decide_eq_false_iff_not] at hz;constructor
 ·intro h0;have:=a.2.2.1 h0;omega
 ·intro h0;have:=b.2.2.1 h0;omega
theorem kh (k:Int) (xl xh yl yh:Nat) (w:World) (h1:xl<18446744073709551616) (h2:xh<18446744073709551616) (h3:yl<18446744073709551616) (h4:yh<18446744073709551616)
  (al ah bl_ bh:Nat) (e1:al=(makeN xl xh).1) (e2:ah=(makeN xl xh).2.1) (e3:bl_=(makeN yl yh).1) (e4:bh=(makeN yl yh).2.1) (r:Nat×Nat×Nat×ByteArray) (hr:r=refOpN k (plT al) (plT ah) (plT bl_) (plT bh)):
  aw 29 #[iV k,gU xl xh,gU yl yh] w (.tuple #[gU r.1 r.2.1,iV (r.2.2.1:Int),.string r.2.2.2]):=by
 have iA:Iv al ah:=by rw[e1,e2];exact dZ xl xh h1 h2
 have iB:Iv bl_ bh:=by rw[e3,e4];exact dZ yl yh h3 h4
 have hx:dF #[gU xl xh] (plT al) (plT ah):=by rw[e1,e2];exact du xl xh h1 h2
 have hy:dF #[gU yl yh] (plT bl_) (plT bh):=by rw[e3,e4];exact du yl yh h3 h4
 clear e1 e2 e3 e4 h1 h2 h3 h4;have p1:=ct iA.p1;have p2:=ct iA.p2;have p3:=ct iB.p1;have p4:=ct iB.p2;have hne:=zY iB;clear iA iB;generalize plT al=a1 at*;generalize plT ah=a2 at*;generalize plT bl_=b1 at*;generalize plT bh=b2 at*;subst hr;unfold refOpN;by_cases k0:k=0
 ·subst k0;rw[if_pos rfl];exact eY xl xh yl yh a1 a2 b1 b2 _ _ w hx hy (.inl ⟨rfl,_,_,_,rfl,lu p2.neg.sm p1.neg.sm⟩)
 rw[if_neg k0];by_cases k1:k=1
 ·subst k1;rw[if_pos rfl];exact eY xl xh yl yh a1 a2 b1 b2 _ _ w hx hy (.inr (.inl ⟨rfl,_,_,_,rfl,Bc p1.sm p2.sm p3.sm p4.sm⟩))
 rw[if_neg k1];by_cases k2:k=2
 ·subst k2;rw[if_pos rfl];exact eY xl xh yl yh a1 a2 b1 b2 _ _ w hx hy (.inr (.inr (.inl ⟨rfl,fun W va vb ha hb=>D9 va vb a1 a2 b1 b2 W ha hb p1.sm.both p2.sm.both p3.sm.both p4.sm.both⟩)))
 rw[if_neg k2];by_cases k3:k=3
 ·subst k3;rw[if_pos rfl];exact qu xl xh yl yh a1 a2 b1 b2 _ _ w hx hy (.inl ⟨rfl,_,_,_,_,_,rfl,kH p1.sm p3.sm,kH p2.sm p4.sm,lu (p1.sum p3) (p2.sum p4)⟩)
 rw[if_neg k3];by_cases k4:k=4
 ·subst k4;rw[if_pos rfl];exact qu xl xh yl yh a1 a2 b1 b2 _ _ w hx hy (.inr (.inl ⟨rfl,sumT a1 (bC b2),sumT a2 (bC b1),_,_,_,rfl,kH (x:=a1) (y:=bC b2) p1.sm p4.neg.sm,kH (x:=a2) (y:=bC b1) p2.sm p3.neg.sm,lu (p1.sum p4.neg) (p2.sum p3.neg)⟩))
 rw[if_neg k4];by_cases k5:k=5
 ·subst k5;rw[if_pos rfl];exact qu xl xh yl yh a1 a2 b1 b2 _ _ w hx hy (.inr (.inr ⟨rfl,_,_,_,_,_,_,_,rfl,kU p1.sm p3.sm,kU p1.sm p4.sm,kU p2.sm p3.sm,kU p2.sm p4.sm,Bc (p1.prod p3) (p1.prod p4) (p2.prod p3) (p2.prod p4)⟩))
 rw[if_neg k5];by_cases k6:k=6
 ·subst k6;rw[if_pos rfl]
  cases hz:holdsT b1 b2
  ·rw[if_neg Bool.false_ne_true];obtain⟨n1,n2⟩:=hne hz;exact eY xl xh yl yh a1 a2 b1 b2 _ _ w hx hy (.inr (.inr (.inr (.inl ⟨rfl,fun W va vb ha hb=>yG va vb a1 a2 b1 b2 (quoN a1 b1) (quoN a1 b2) (quoN a2 b1) (quoN a2 b2) W ha hb hz (fun u v w' hu hv=>u7 p1.sm p3.sm n1 u v w' hu hv) (fun u v w' hu hv=>u7 p1.sm p4.sm n2 u v w' hu hv) (fun u v w' hu hv=>u7 p2.sm p3.sm n1 u v w' hu hv) (fun u v w' hu hv=>u7 p2.sm p4.sm n2 u v w' hu hv) (p1.quo p3).both (p1.quo p4).both (p2.quo p3).both (p2.quo p4).both _ rfl⟩))))
  ·rw[if_pos rfl];exact eY xl xh yl yh a1 a2 b1 b2 _ _ w hx hy (.inr (.inr (.inr (.inl ⟨rfl,fun W va vb ha hb=>wg va vb a1 a2 b1 b2 W ha hb hz⟩))))
 rw[if_neg k6];by_cases k7:k=7
 ·subst k7;rw[if_pos rfl];by_cases hs:sgnI a1.1 a1.2.1<0
  ·rw[if_pos hs];exact eY xl xh yl yh a1 a2 b1 b2 _ _ w hx hy (.inr (.inr (.inr (.inr (.inl ⟨rfl,hs,rfl⟩)))))
  ·rw[if_neg hs];exact eY xl xh yl yh a1 a2 b1 b2 _ _ w hx hy (.inr (.inr (.inr (.inr (.inr (.inr ⟨rfl,hs,_,_,_,_,_,rfl,Ck p1.sm,Ck p2.sm,lu p1.root p2.root⟩))))))
 rw[if_neg k7];exact eY xl xh yl yh a1 a2 b1 b2 _ _ w hx hy (.inr (.inr (.inr (.inr (.inr (.inl ⟨⟨k0,k1,k2,k3,k4,k5,k6,k7⟩,_,_,_,rfl,lu p1.sm p2.sm⟩))))))
end
section
open Go.RowKit
theorem fI (s:ByteArray) (xl xh yl yh:Nat) (k:Int) (r:Nat×Nat×Nat×ByteArray) (w:World) (hs:s.toList=[104,117,108,108]∧k=1∨s.toList=[109,101,101,116]∧k=2∨s.toList=[43]∧k=3∨s.toList=[45]∧k=4∨s.toList=[42]∧k=5∨s.toList=[47]∧k=6) (hr:∀W,aw 29 #[iV k,gU xl xh,gU yl yh] W (.tuple #[gU r.1 r.2.1,iV (r.2.2.1:Int),.string r.2.2.2])):
  aw 31 #[.string s,gU xl xh,gU yl yh] w (.tuple #[gU r.1 r.2.1,iV (r.2.2.1:Int),.string r.2.2.2]):=by
 have HR:=hid hr;clear hr;rcases hs with⟨hs,rfl⟩|⟨hs,rfl⟩|⟨hs,rfl⟩|⟨hs,rfl⟩|⟨hs,rfl⟩|⟨hs,rfl⟩<;>
 (
  first|have e0:([104,117,108,108]==s.toList)=true:=by rw[hs];rfl|have e0:([104,117,108,108]==s.toList)=false:=by rw[hs];rfl
  first|have e1:([109,101,101,116]==s.toList)=true:=by rw[hs];rfl|have e1:([109,101,101,116]==s.toList)=false:=by rw[hs];rfl
  first|have e2:([43]==s.toList)=true:=by rw[hs];rfl|have e2:([43]==s.toList)=false:=by rw[hs];rfl
  first|have e3:([45]==s.toList)=true:=by rw[hs];rfl|have e3:([45]==s.toList)=false:=by rw[hs];rfl
  first|have e4:([42]==s.toList)=true:=by rw[hs];rfl|have e4:([42]==s.toList)=false:=by rw[hs];rfl
  first|have e5:([47]==s.toList)=true:=by rw[hs];rfl|have e5:([47]==s.toList)=false:=by rw[hs];rfl
  clear hs;go_enter Tryz.func31,Tryz.ntmps31;go_wp2_with fail;refine wp_loop_rounds 7 ?_
  repeat(rw[rounds_succ];go_wp2_with fail)
  have B2:=ai (af ((w.alloc (.cells #[nV xl,nV xh] 28)).alloc (.cells #[nV yl,nV yh] 28)) (.cells #[uV 0,uV 0] 28)) (.cells #[.string ⟨#[]⟩,.string ⟨#[104,117,108,108]⟩,.string ⟨#[109,101,101,116]⟩,.string ⟨#[43]⟩,.string ⟨#[45]⟩,.string ⟨#[42]⟩,.string ⟨#[47]⟩] 9);have hW:Below w.heap.size w ((((w.alloc (.cells #[nV xl,nV xh] 28)).alloc (.cells #[nV yl,nV yh] 28)).alloc (.cells #[uV 0,uV 0] 28)).alloc (.cells #[.string ⟨#[]⟩,.string ⟨#[104,117,108,108]⟩,.string ⟨#[109,101,101,116]⟩,.string ⟨#[43]⟩,.string ⟨#[45]⟩,.string ⟨#[42]⟩,.string ⟨#[47]⟩] 9)):=((aJ.alloc (by simp) _).alloc (by simp;omega) _).alloc (by simp;omega) _;simp only[World.size_alloc] at B2;generalize((((w.alloc (.cells #[nV xl,nV xh] 28)).alloc (.cells #[nV yl,nV yh] 28)).alloc (.cells #[uV 0,uV 0] 28)).alloc (.cells #[.string ⟨#[]⟩,.string ⟨#[104,117,108,108]⟩,.string ⟨#[109,101,101,116]⟩,.string ⟨#[43]⟩,.string ⟨#[45]⟩,.string ⟨#[42]⟩,.string ⟨#[47]⟩] 9))=W2 at*;refine (HR.out _).mono ?_;rintro ev w9 ⟨rfl,hb9⟩;have HK:=hid (aa B2 hb9);have HB:=hid (hW.trans (hb9.mono hW.size));clear hb9 hW B2 HR;obtain⟨q0,q1,q2,q3⟩:=aj HK.out;go_wp2_with fail;obtain⟨p0,p1,-,-⟩:=aj (aA (a:=nV r.1) (b:=nV r.2.1) HK.out);refine bodyPost_ret (v:= .tuple #[gU r.1 r.2.1,iV (r.2.2.1:Int),.string r.2.2.2]) (by simp[results,Tryz.results31,go_sem,p0,p1]) rfl ?_;exact⟨rfl,(HB.out.setCell (by simp;omega) _).setCell (by simp;omega) _⟩)
theorem uM (s:ByteArray) (xl xh yl yh:Nat) (w:World) (hs:s.toList≠[104,117,108,108]∧s.toList≠[109,101,101,116]∧s.toList≠[43]∧s.toList≠[45]∧s.toList≠[42]∧s.toList≠[47]):
  aw 31 #[.string s,gU xl xh,gU yl yh] w (.tuple #[.agg #[uV 0,uV 0],iV 7,.string s]):=by
 obtain⟨n0,n1,n2,n3,n4,n5⟩:=hs;have e0:([104,117,108,108]==s.toList)=false:=beq_eq_false_iff_ne.2 (fun h=>n0 h.symm);have e1:([109,101,101,116]==s.toList)=false:=beq_eq_false_iff_ne.2 (fun h=>n1 h.symm);have e2:([43]==s.toList)=false:=beq_eq_false_iff_ne.2 (fun h=>n2 h.symm);have e3:([45]==s.toList)=false:=beq_eq_false_iff_ne.2 (fun h=>n3 h.symm);have e4:([42]==s.toList)=false:=beq_eq_false_iff_ne.2 (fun h=>n4 h.symm);have e5:([47]==s.toList)=false:=beq_eq_false_iff_ne.2 (fun h=>n5 h.symm);clear n0 n1 n2 n3 n4 n5;go_enter Tryz.func31,Tryz.ntmps31;go_wp2_with fail;refine wp_loop_rounds 7 ?_
 repeat(rw[rounds_succ];go_wp2_with fail)
 have B2:=ai (af ((w.alloc (.cells #[nV xl,nV xh] 28)).alloc (.cells #[nV yl,nV yh] 28)) (.cells #[uV 0,uV 0] 28)) (.cells #[.string ⟨#[]⟩,.string ⟨#[104,117,108,108]⟩,.string ⟨#[109,101,101,116]⟩,.string ⟨#[43]⟩,.string ⟨#[45]⟩,.string ⟨#[42]⟩,.string ⟨#[47]⟩] 9);have hW:Below w.heap.size w ((((w.alloc (.cells #[nV xl,nV xh] 28)).alloc (.cells #[nV yl,nV yh] 28)).alloc (.cells #[uV 0,uV 0] 28)).alloc (.cells #[.string ⟨#[]⟩,.string ⟨#[104,117,108,108]⟩,.string ⟨#[109,101,101,116]⟩,.string ⟨#[43]⟩,.string ⟨#[45]⟩,.string ⟨#[42]⟩,.string ⟨#[47]⟩] 9)):=((aJ.alloc (by simp) _).alloc (by simp;omega) _).alloc (by simp;omega) _;simp only[World.size_alloc] at B2;obtain⟨p0,p1,-,-⟩:=aj B2;refine bodyPost_ret (v:= .tuple #[.agg #[uV 0,uV 0],iV 7,.string s]) (by simp[results,Tryz.results31,go_sem,p0,p1]) rfl ?_;exact⟨rfl,hW⟩
end
section
open Go.RowKit Go.Extern Ieee
theorem lM (s:Bool) {r:Nat} (h1:553942754166571008≤r) (h2:r≤8660422083433463808):au (wd s r)=some (s,r % 4503599627370496+4503599627370496,((r / 4503599627370496:Nat):Int)-1075):=by
 have e1:wd s r % 4503599627370496=r % 4503599627370496:=by unfold wd;split<;>omega
 have e2:wd s r / 4503599627370496 % 2048=r / 4503599627370496:=by unfold wd;split<;>omega
 have e3:decide (wd s r / 9223372036854775808=1)=s:=by
  unfold wd
  cases s
  ·rw[if_neg Bool.false_ne_true];exact decide_eq_false (by omega)
  ·rw[if_pos rfl];exact decide_eq_true (by omega)
 unfold au;rw[e1,e2,e3,if_neg (by omega),if_neg (by omega)]
theorem kE {s:Bool} {m k:Nat} {E:Int}:bj E (sg s (m*2^k)) (s,m,E+k):=by
 intro c h1 h2;simp only at*;rw[bG,Nat.mul_assoc,←Nat.pow_add]
 congr 3
 omega
theorem vu (s:Bool) {n:Nat} {e:Int} (h0:n≠0) (h1:553942754166571008≤rung n e) (h2:rung n e≤8660422083433463808):bj (e+bl n-53) (sg s (mf n)) (plT (wd s (rung n e).toNat)):=by
 have hb:=b9 (Nat.pos_of_ne_zero h0);have hp:=lM s (r:=(rung n e).toNat) (by omega) (by omega);have e1:(rung n e).toNat % 4503599627370496+4503599627370496=mf n:=by unfold rung at*;omega
 have e2:(((rung n e).toNat / 4503599627370496:Nat):Int)-1075=e+bl n-53:=by unfold rung at*;omega
 have:plT (wd s (rung n e).toNat)=(s,mf n,e+bl n-53):=by unfold plT;rw[hp,e1,e2];rfl
 rw[this];have:=kE (s:=s) (m:=mf n) (k:=0) (E:=e+bl n-53);simpa using this
theorem yL (s:Bool) {n:Nat} {e:Int} (h0:n≠0) (h1:553942754166571008≤rung n e+1) (h2:rung n e+1≤8660422083433463808):bj (e+bl n-53) (sg s (mf n+1)) (plT (wd s (rung n e+1).toNat)):=by
 have hb:=b9 (Nat.pos_of_ne_zero h0);have hp:=lM s (r:=(rung n e+1).toNat) (by omega) (by omega);by_cases hc:mf n+1<9007199254740992
 ·have e1:(rung n e+1).toNat % 4503599627370496+4503599627370496=mf n+1:=by unfold rung at*;omega
  have e2:(((rung n e+1).toNat / 4503599627370496:Nat):Int)-1075=e+bl n-53:=by unfold rung at*;omega
  have:plT (wd s (rung n e+1).toNat)=(s,mf n+1,e+bl n-53):=by unfold plT;rw[hp,e1,e2];rfl
  rw[this];have:=kE (s:=s) (m:=mf n+1) (k:=0) (E:=e+bl n-53);simpa using this
 ·have e1:(rung n e+1).toNat % 4503599627370496+4503599627370496=4503599627370496:=by unfold rung at*;omega
  have e2:(((rung n e+1).toNat / 4503599627370496:Nat):Int)-1075=e+bl n-53+(1:Nat):=by unfold rung at*;omega
  have:plT (wd s (rung n e+1).toNat)=(s,4503599627370496,e+bl n-53+(1:Nat)):=by unfold plT;rw[hp,e1,e2];rfl
  rw[this];have:=kE (s:=s) (m:=4503599627370496) (k:=1) (E:=e+bl n-53);rwa [show 4503599627370496*2^1=mf n+1 by omega] at this
theorem vD (n:Nat) (e c:Int) (_h0:n≠0) (h1:c≤e) (h2:c≤e+bl n-53):mf n*2^(e+bl n-53-c).toNat≤n*2^(e-c).toNat∧n*2^(e-c).toNat≤(mf n+if aP n then 1 else 0)*2^(e+bl n-53-c).toNat:=by
 by_cases hb:bl n≤53
 ·have hm:mf n=n*2^(53-bl n):=by unfold mf;rw[if_pos hb]
  have hi:=b8 hb
  have:mf n*2^(e+bl n-53-c).toNat=n*2^(e-c).toNat:=by
   rw[hm,Nat.mul_assoc,←Nat.pow_add];congr 2;omega
  rw[hi];simp only[Bool.false_eq_true,if_false,Nat.add_zero];omega
 ·have hm:mf n=n / 2^(bl n-53):=by unfold mf;rw[if_neg hb]
  have hx:aP n=decide (n % 2^(bl n-53)≠0):=by unfold aP;simp[show 53<bl n by omega]
  have hp:2^(e+bl n-53-c).toNat=2^(bl n-53)*2^(e-c).toNat:=by rw[←Nat.pow_add];congr 1;omega
  have hd:=Nat.div_add_mod n (2^(bl n-53));have hl:=Nat.mod_lt n (Nat.two_pow_pos (bl n-53));rw[hp,←Nat.mul_assoc,←Nat.mul_assoc];rw[hm,hx];constructor
  ·apply Nat.mul_le_mul_right;rw[Nat.mul_comm];omega
  ·apply Nat.mul_le_mul_right;by_cases hz:n % 2^(bl n-53)=0
   ·rw[decide_eq_false (by omega)];simp only[Bool.false_eq_true,if_false,Nat.add_zero];rw[Nat.mul_comm];omega
   ·rw[decide_eq_true hz,if_pos rfl,Nat.add_mul,Nat.one_mul,Nat.mul_comm (n / _)];omega
theorem rC (s:Bool) {r:Int} (h:0<r):wdP (sgI s r)=wd s r.toNat:=by
 unfold wdP sgI
 cases s
 ·rw[if_neg Bool.false_ne_true,decide_eq_false (by omega)];congr 1;omega
 ·rw[if_pos rfl,decide_eq_true (by omega)];congr 1;omega
theorem rv (s:Bool) {r:Int} (h:plP (sgI s (aX r))=true):553942754166571008≤r∧r≤8660422083433463808∧aX r=r:=by
 unfold plP at h;rw[decide_eq_true_eq] at h;have hc:=cZ r
 have ha:((sgI s (aX r)).natAbs:Int)=aX r:=by
  have:=cP r;unfold sgI;cases s
  ·rw[if_neg Bool.false_ne_true];omega
  ·rw[if_pos rfl];omega
 have hz:sgI s (aX r)≠0:=by
  have:=cP r;omega
 omega
theorem kV:plT 0=(false,0,0):=rfl
theorem nF:wdP 0=0:=rfl
theorem iq {x:ap} (h:x.2.1=0) (e:Int):bj e 0 x:=by
 obtain⟨s,n,p⟩:=x;simp only at h;subst h;exact qS e s p
theorem fj {e z:Int} {x:ap} (h:bj e z x) {c:Int} (hc:c≤e):bj c (z*((2^(e-c).toNat:Nat):Int)) x:=by
 have:=ou (s:=x.1) (m:=x.2.1) (p:=x.2.2) h (e-c).toNat
 rwa [show e-((e-c).toNat:Nat)=c by omega] at this
theorem qQ {x:ap} (h:plP (ar x (-1))=true):leV (plT (wdP (ar x (-1)))) x:=by
 by_cases h0:x.2.1=0
 ·have:ar x (-1)=0:=by unfold ar;rw[if_pos h0]
  rw[this,nF,kV];exact bY (iq rfl 0) (iq h0 0) (Int.le_refl _)
 ·have hp:ar x (-1)=sgI x.1 (aX (endR x.1 x.2.1 x.2.2 (-1))):=by unfold ar;rw[if_neg h0]
  rw[hp] at h⊢;obtain⟨a,b,c⟩:=rv x.1 h;rw[c,rC x.1 (by omega)];obtain⟨s,n,e⟩:=x;simp only at*;have hc:=vD n e (min e (e+bl n-53)) h0 (by omega) (by omega);have hx:=bk (s,n,e) (e:=min e (e+bl n-53)) (by simp only;omega);simp only at hx;have hend:endR s n e (-1)=rung n e+if s && aP n then 1 else 0:=by unfold endR;rw[jf]
  rw[hend] at a b⊢;by_cases hs:(s && aP n)=true
  ·rw[hs,if_pos rfl] at a b⊢;rw[Bool.and_eq_true] at hs;obtain⟨rfl,hi⟩:=hs;have hw:=fj (yL true h0 a b) (c:=min e (e+bl n-53)) (by omega);refine bY hw hx ?_;rw[hi,if_pos rfl] at hc;rw[bG];have:=hc.2;unfold sg;rw[if_pos rfl,if_pos rfl];omega
  ·have hs':(s && aP n)=false:=by cases h:(s && aP n)<;>simp_all
   rw[hs',if_neg Bool.false_ne_true,Int.add_zero] at a b⊢;have hw:=fj (vu s h0 a b) (c:=min e (e+bl n-53)) (by omega);refine bY hw hx ?_;rw[bG]
   cases s
   ·have:=hc.1;unfold sg;rw[if_neg Bool.false_ne_true,if_neg Bool.false_ne_true];omega
   ·have hi:aP n=false:=by simpa using hs'
    rw[hi] at hc;simp only[Bool.false_eq_true,if_false,Nat.add_zero] at hc;have:=hc.2;unfold sg;rw[if_pos rfl,if_pos rfl];omega
theorem oG {x:ap} (h:plP (ar x 1)=true):leV x (plT (wdP (ar x 1))):=by
 by_cases h0:x.2.1=0
 ·have:ar x 1=0:=by unfold ar;rw[if_pos h0]
  rw[this,nF,kV];exact bY (iq h0 0) (iq rfl 0) (Int.le_refl _)
 ·have hp:ar x 1=sgI x.1 (aX (endR x.1 x.2.1 x.2.2 1)):=by unfold ar;rw[if_neg h0]
  rw[hp] at h⊢;obtain⟨a,b,c⟩:=rv x.1 h;rw[c,rC x.1 (by omega)];obtain⟨s,n,e⟩:=x;simp only at*;have hc:=vD n e (min e (e+bl n-53)) h0 (by omega) (by omega);have hx:=bk (s,n,e) (e:=min e (e+bl n-53)) (by simp only;omega);simp only at hx;have hend:endR s n e 1=rung n e+if(!s) && aP n then 1 else 0:=by unfold endR;rw[mt]
  rw[hend] at a b⊢;by_cases hs:((!s) && aP n)=true
  ·rw[hs,if_pos rfl] at a b⊢;rw[Bool.and_eq_true] at hs;obtain⟨hs1,hi⟩:=hs;have hs2:s=false:=by cases s<;>simp_all
   subst hs2;have hw:=fj (yL false h0 a b) (c:=min e (e+bl n-53)) (by omega);refine bY hx hw ?_;rw[hi,if_pos rfl] at hc;rw[bG];have:=hc.2;unfold sg;rw[if_neg Bool.false_ne_true,if_neg Bool.false_ne_true];omega
  ·have hs':((!s) && aP n)=false:=by cases h:((!s) && aP n)<;>simp_all
   rw[hs',if_neg Bool.false_ne_true,Int.add_zero] at a b⊢;have hw:=fj (vu s h0 a b) (c:=min e (e+bl n-53)) (by omega);refine bY hx hw ?_;rw[bG]
   cases s
   ·have hi:aP n=false:=by simpa using hs'
    rw[hi] at hc;simp only[Bool.false_eq_true,if_false,Nat.add_zero] at hc;have:=hc.2;unfold sg;rw[if_neg Bool.false_ne_true,if_neg Bool.false_ne_true];omega
   ·have:=hc.1;unfold sg;rw[if_pos rfl,if_pos rfl];omega
theorem AV {e z:Int} {x y:ap} (hx:bj e z x) (h1:leV x y) (h2:leV y x):bj e z y:=by
 have key:∀c,c≤x.2.2→c≤y.2.2→sg x.1 (x.2.1*2^(x.2.2-c).toNat)=sg y.1 (y.2.1*2^(y.2.2-c).toNat):=by
  intro c a b
  have p1:∀u v:ap,c≤u.2.2→c≤v.2.2→leV u v→sg u.1 (u.2.1*2^(u.2.2-c).toNat)≤sg v.1 (v.2.1*2^(v.2.2-c).toNat):=by
   intro u v hu hv h;unfold leV lvA lvB at h;have hm:=Int.mul_le_mul_of_nonneg_right h (Int.natCast_nonneg (2^(min u.2.2 v.2.2-c).toNat));rw[bG,bG,Nat.mul_assoc,Nat.mul_assoc,←Nat.pow_add,←Nat.pow_add] at hm;rwa [show(u.2.2-min u.2.2 v.2.2).toNat+(min u.2.2 v.2.2-c).toNat=(u.2.2-c).toNat by omega,show(v.2.2-min u.2.2 v.2.2).toNat+(min u.2.2 v.2.2-c).toNat=(v.2.2-c).toNat by omega] at hm
  exact Int.le_antisymm (p1 x y a b h1) (p1 y x b a h2)
 refine qx (min (min x.2.2 y.2.2) e) (by omega) (by omega) ?_;rw[←key _ (by omega) (by omega)];exact hx _ (by omega) (by omega)
theorem GD (n:Nat):q1 n 4503599627370496=n*2^3:=by
 unfold q1;have e:n*2^54=n*4*4503599627370496:=by omega
 rw[e,Nat.mul_div_cancel _ (by decide),Nat.mul_mod_left,if_pos rfl];omega
theorem yX {b:Nat} {x:ap} (hb:b<18446744073709551616) (hz:b≠9223372036854775808) (h:au b=some x):double.div b 4611686018427387904=some (fd (-954) (vp x)):=by
 obtain⟨s,n,e⟩:=x;have hpn:=cD h;rcases fp hb h with⟨rfl,rfl,hz2,_⟩|⟨hn,hr⟩
 ·have h0:b=0:=by omega
  subst h0
  have:s=false:=by
   have:=h;unfold au at this;simp at this;exact this
  subst this;rw[pB,eD]
  rfl
 ·have hnn:n≠0:=by omega
  rcases hpn with hc|⟨n1,n2,e1,e2⟩
  ·cases hc;omega
  ·simp only at n1 n2 e1 e2;have r2:double.read 4611686018427387904= .number false 4503599627370496 (-51):=rfl;rw[oN hr r2 n1 n2 (by decide) (by decide),GD,Bool.xor_false]
   congr 1
   have hbl:=eB n1 n2;have hnu:nup n=false:=ie (b8 (by omega))
   have hv:vp (s,n,e)≠0:=by
    unfold vp;exact(gM (Nat.mul_ne_zero hnn (Nat.pos_iff_ne_zero.1 (Nat.two_pow_pos _)))).2.2
   have hva:(vp (s,n,e)).natAbs=n*2^(e+953).toNat:=(eA.vp_abs (Or.inr ⟨n1,n2,e1,e2⟩))
   have hsg:decide (vp (s,n,e)<0)=s:=by
    unfold vp;exact(gM (Nat.mul_ne_zero hnn (Nat.pos_iff_ne_zero.1 (Nat.two_pow_pos _)))).1
   have hbl2:bl (n*2^(e+953).toNat)=53+(e+953).toNat:=by rw[cz hnn,hbl]
   rw[kI hv ⟨by omega,by rw[hva,hbl2];omega⟩,hva,hsg,ke hnn,hnu,gY hnn];have hb8:bl (n*2^3)=56:=by rw[cz hnn,hbl]
   rw[eX s (Nat.mul_ne_zero hnn (by decide)) (by rw[hb8];omega) (by rw[hb8];omega),ke hnn,hnu,gY hnn];unfold wd
   congr 2
   congr 1
   congr 1
   omega
def il (l h:Nat):Nat:=fd (-954) (vp (plT l)+vp (plT h))
theorem wk {x:ap} (h:eA x):eW (-954) (vp x):=by
 have:=bQ h.lt;have h1:=mF;have h2:=mH;exact⟨by omega,by omega⟩
theorem Fz {l h:Nat} (i:Iv l h):double.add (fd (-954) (vp (plT l))) (fd (-954) (vp (plT h)))=some (il l h):=by
 have p1:=cD i.p1;have p2:=cD i.p2;have h1:=mF;have h2:=mH;have l1:=p1.lt;have l2:=p2.lt;refine lm (wk p1) (wk p2) p1.rep p2.rep ⟨by omega,?_⟩;have:bl (vp (plT l)+vp (plT h)).natAbs≤plM+1:=bQ (by rw[Nat.pow_succ];omega);omega
theorem xU (l h a b m:Nat) (w:World) (h1:double.div l 4611686018427387904=some a) (h2:double.div h 4611686018427387904=some b) (h3:double.add a b=some m):
  aw 152 #[gF l h] w (fV m):=by
 have g1:∀w,(binOp .quo 65 (fV l) (fV 4611686018427387904)).run Tryz.prog w= .ok (fV a) w:=fun w=>run_float_arith w .quo _ .f64 l 4611686018427387904 a h1
 have g2:∀w,(binOp .quo 65 (fV h) (fV 4611686018427387904)).run Tryz.prog w= .ok (fV b) w:=fun w=>run_float_arith w .quo _ .f64 h 4611686018427387904 b h2
 have g3:∀w,(binOp .add 65 (fV a) (fV b)).run Tryz.prog w= .ok (fV m) w:=fun w=>run_float_arith w .add _ .f64 a b m h3
 clear h1 h2 h3;go_enter Tryz.func152,Tryz.ntmps152;go_wp2
 go_ret
 exact⟨rfl,aK.alloc ae _⟩
theorem Aw {l h:Nat} (i:Iv l h) (w:World):
  aw 152 #[gF l h] w (fV (il l h)):=
 xU l h _ _ _ w (yX i.lt1 i.z1 i.p1) (yX i.lt2 i.z2 i.p2) (Fz i)
def midT (l h:Nat):Nat×Bool:=cS (sumT (plT l) (plT h)).1 (sumT (plT l) (plT h)).2.1 ((sumT (plT l) (plT h)).2.2-1)
theorem AL {e z:Int} {x:ap} (h:bj e z x):bj (e-1) z (x.1,x.2.1,x.2.2-1):=by
 intro c h1 h2;have:=h (c+1) (by simp only at h1;omega) (by omega);simp only;rw[show x.2.2-1-c=x.2.2-(c+1) by omega,show e-1-c=e-(c+1) by omega];exact this
theorem wJ {e z:Int} {x:ap} (h:bj e z x) (hz:z≠0):cS x.1 x.2.1 x.2.2=jp (decide (z<0)) (rung z.natAbs e+if nup z.natAbs then 1 else 0):=by
 obtain⟨s,n,p⟩:=x;have hm:=h (min e p) (by simp only;omega) (by omega);simp only at hm⊢;have hp1:=Nat.two_pow_pos (p-min e p).toNat
 have hp2:=Nat.two_pow_pos (e-min e p).toNat
 have ha:=congrArg Int.natAbs hm;rw[Int.natAbs_mul,Int.natAbs_natCast,show(sg s (n*2^(p-min e p).toNat)).natAbs=n*2^(p-min e p).toNat by unfold sg;split<;>omega] at ha;have hzn:z.natAbs≠0:=by omega
 have hn:n≠0:=by
  rintro rfl;rw[Nat.zero_mul] at ha;rcases Nat.mul_eq_zero.1 ha.symm with h|h<;>omega
 have hs:s=decide (z<0):=by
  have h1:=gM (s:=s) (Nat.mul_ne_zero hn (Nat.pos_iff_ne_zero.1 hp1));rw[←h1.1,hm];apply decide_eq_decide.2;constructor
  ·intro h;apply Decidable.byContradiction;intro hc;have:=Int.mul_nonneg (show 0≤z by omega) (Int.natCast_nonneg (2^(e-min e p).toNat));omega
  ·intro h;exact Int.mul_neg_of_neg_of_pos h (by omega)
 have r1:rung n p=rung z.natAbs e:=by
  have a1:=gY hn (p-min e p).toNat (min e p);have a2:=gY hzn (e-min e p).toNat (min e p);rw[ha,a2] at a1;rw[show min e p+((p-min e p).toNat:Int)=p by omega,show min e p+((e-min e p).toNat:Int)=e by omega] at a1;exact a1.symm
 have r2:nup n=nup z.natAbs:=by
  have a1:=ke hn (p-min e p).toNat
  have a2:=ke hzn (e-min e p).toNat
  rw[ha,a2] at a1;exact a1.symm
 rw[qr s p hn,r1,r2,hs]
theorem jO {l h:Nat} (i:Iv l h):(au (il l h)).isSome=(midT l h).2∧((midT l h).2=true→il l h=(midT l h).1∧FR (il l h) (aW (il l h))):=by
 have p1:=cD i.p1;have p2:=cD i.p2;have hm:=AL (dx p1.means p2.means);have hm':bj (-954) (vp (plT l)+vp (plT h)) ((sumT (plT l) (plT h)).1,(sumT (plT l) (plT h)).2.1,(sumT (plT l) (plT h)).2.2-1):=hm;by_cases hz:vp (plT l)+vp (plT h)=0
 ·have hn:(sumT (plT l) (plT h)).2.1=0:=by
   rw[hz] at hm';have:=hm' (min (-954) ((sumT (plT l) (plT h)).2.2-1)) (by simp only;omega) (by omega);simp only[Int.zero_mul] at this;have hp:=Nat.two_pow_pos ((sumT (plT l) (plT h)).2.2-1-min (-954) ((sumT (plT l) (plT h)).2.2-1)).toNat
   have hx:(sumT (plT l) (plT h)).2.1*2^((sumT (plT l) (plT h)).2.2-1-min (-954) ((sumT (plT l) (plT h)).2.2-1)).toNat=0:=by
    unfold sg at this;split at this<;>omega
   rcases Nat.mul_eq_zero.1 hx with h|h
   ·exact h
   ·omega
  have e1:il l h=0:=by unfold il;rw[hz,eD]
  have e2:midT l h=(0,true):=by unfold midT cS;rw[hn,if_pos rfl]
  rw[e1,e2];exact⟨rfl,fun _=>⟨rfl,jb⟩⟩
 ·have hzr:midT l h=_:=wJ hm' hz
  have hf:eW (-954) (vp (plT l)+vp (plT h)):=by
   have h1:=mF;have h2:=mH;have l1:=p1.lt;have l2:=p2.lt;have:bl (vp (plT l)+vp (plT h)).natAbs≤plM+1:=bQ (by rw[Nat.pow_succ];omega);exact⟨by omega,by omega⟩
  have hw:il l h=_:=kI hz hf;have hn:(vp (plT l)+vp (plT h)).natAbs≠0:=by omega
  have rb:=cJ (-954) hn;have hbl:=eK (n:=(vp (plT l)+vp (plT h)).natAbs) (by omega);have hf2:=hf.2;generalize decide (vp (plT l)+vp (plT h)<0)=s at*;have hr:∃r:Int,(rung (vp (plT l)+vp (plT h)).natAbs (-954)+if nup (vp (plT l)+vp (plT h)).natAbs then 1 else 0)=r∧0<r∧r≤9218868437227405312:=⟨_,rfl,by split<;>omega,by split<;>omega⟩;obtain⟨r,er,r1,r2⟩:=hr;rw[er] at hzr hw;rw[hzr,hw];have hnz:wd s r.toNat≠9223372036854775808:=by unfold wd;split<;>omega
  have hlt:wd s r.toNat<18446744073709551616:=kz (by omega);have hmod:wd s r.toNat % 9223372036854775808=r.toNat:=by unfold wd;split<;>omega
  have hfr:FR (wd s r.toNat) (aW (wd s r.toNat)):=⟨hlt,hnz,by omega,rfl⟩;unfold jp;by_cases hin:553942754166571008≤r∧r≤8660422083433463808
  ·rw[if_pos hin];refine⟨?_,fun _=>⟨?_,hfr⟩⟩
   ·rw[lM s (by omega) (by omega)];rfl
   ·unfold wd;rfl
  ·rw[if_neg hin];refine⟨?_,fun h=>by cases h⟩;rw[hfr.plain];have hp0:wd s r.toNat % 9223372036854775808≠0:=by omega
   have ha:=qF (wd s r.toNat) hp0;rw[hmod] at ha;have hc:=cZ ((r.toNat:Nat):Int);unfold plP;apply decide_eq_false;omega
end
section
def pw (k:Int):Rat:=(2:Rat)^k
theorem bT (a b:Int):pw (a+b)=pw a*pw b:=Rat.zpow_add (by grind) a b
theorem pN:pw 0=1:=Rat.zpow_zero 2
theorem oF:pw 1=2:=by unfold pw;grind
theorem eU (n:Nat):pw (n:Int)=((2^n:Nat):Rat):=by
 unfold pw;rw[Rat.zpow_natCast]
 induction n with
 |zero=>rfl
 |succ n ih=>rw[Rat.pow_succ,ih,Nat.pow_succ];grind
theorem d9 (k:Int):0<pw k:=by
 rcases(show(∃n:Nat,k=n)∨(∃n:Nat,k=-(n:Int)) from by
  rcases Int.eq_nat_or_neg k with⟨n,h|h⟩
  ·left;exact⟨n,h⟩
  ·right;exact⟨n,h⟩) with⟨n,rfl⟩|⟨n,rfl⟩
 ·rw[eU];have:=Nat.two_pow_pos n;exact Rat.natCast_pos.2 this
 ·have h:pw (-(n:Int))*pw (n:Int)=1:=by rw[←bT,show -(n:Int)+n=0 by omega,pN]
  have h2:0<pw (n:Int):=by
   rw[eU];exact Rat.natCast_pos.2 (Nat.two_pow_pos n)
  apply Decidable.byContradiction;intro hc;have:=Rat.mul_nonneg (show 0≤-pw (-(n:Int)) by grind) (Rat.le_of_lt h2);grind
theorem E7 {a b:Int} (h:a≤b):pw a≤pw b:=by
 obtain⟨n,rfl⟩:∃n:Nat,b=a+n:=⟨(b-a).toNat,by omega⟩;rw[bT,eU]
 have h1:(1:Rat)≤((2^n:Nat):Rat):=by
  have:=Nat.two_pow_pos n;have:((1:Nat):Rat)≤((2^n:Nat):Rat):=Rat.natCast_le_natCast.2 (by omega);exact this
 have:=aV (Rat.le_of_lt (d9 a)) h1;grind
def rvQ (r:Int):Rat:=((r % 4503599627370496+4503599627370496:Int):Rat)*pw (r / 4503599627370496-1075)
theorem jT {r m e:Int} (h1:r=(e+1074)*4503599627370496+m) (h2:4503599627370496≤m) (h3:m<9007199254740992):rvQ r=(m:Rat)*pw e:=by
 unfold rvQ;rw[show r % 4503599627370496+4503599627370496=m by omega,show r / 4503599627370496-1075=e by omega]
theorem zw {r m e:Int} (h1:r=(e+1074)*4503599627370496+m) (h2:4503599627370496≤m) (h3:m<9007199254740992):rvQ (r+1)=((m+1:Int):Rat)*pw e:=by
 by_cases h:m+1<9007199254740992
 ·exact jT (by omega) (by omega) h
 ·have hm:m=9007199254740991:=by omega
  rw[jT (r:=r+1) (m:=4503599627370496) (e:=e+1) (by omega) (by omega) (by omega),bT,oF,hm];grind
theorem qB (r:Int):∃m e:Int,r=(e+1074)*4503599627370496+m∧4503599627370496≤m∧m<9007199254740992:=
 ⟨r % 4503599627370496+4503599627370496,r / 4503599627370496-1075,by omega,by omega,by omega⟩
theorem jl (r:Int):0<rvQ r:=by
 obtain⟨m,e,h1,h2,h3⟩:=qB r;rw[jT h1 h2 h3];exact Rat.mul_pos (Rat.intCast_pos.2 (by omega)) (d9 e)
theorem pP (r:Int):rvQ r<rvQ (r+1)∧rvQ (r+1)≤rvQ r+eps*rvQ r:=by
 obtain⟨m,e,h1,h2,h3⟩:=qB r;rw[jT h1 h2 h3,zw h1 h2 h3];have hp:=d9 e
 have hm:(4503599627370496:Rat)≤(m:Rat):=by
  have:((4503599627370496:Int):Rat)≤(m:Rat):=Rat.intCast_le_intCast.2 h2;exact this
 have e1:((m+1:Int):Rat)=(m:Rat)+1:=by grind
 rw[e1];have:=bu (Rat.le_of_lt hp) hm;unfold eps;constructor<;>grind
theorem gK {r t:Int} (h:r≤t):rvQ r≤rvQ t:=by
 obtain⟨n,rfl⟩:∃n:Nat,t=r+n:=⟨(t-r).toNat,by omega⟩;clear h
 induction n with
 |zero=>simp
 |succ n ih=>
  have:=(pP (r+n)).1;rw[show r+((n+1:Nat):Int)=r+n+1 by omega];grind
end
end Go.Proofs.YtonhpkigoplmaaaGreatDoor
