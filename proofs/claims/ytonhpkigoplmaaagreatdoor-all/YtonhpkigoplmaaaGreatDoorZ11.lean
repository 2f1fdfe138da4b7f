import Derived.Test.YtonhpkigoplmaaaGreatDoorZ10
import Derived.Deep.DeepCutAuto
set_option maxRecDepth 100000
set_option maxHeartbeats 40000000
namespace Go.Proofs.YtonhpkigoplmaaaGreatDoor
section
open Go.RowKit
def Ig (f:Nat) (args:Array Value) (w:World) (q:ap):Prop:=∀w',Below w.heap.size w w'→ax f args w' fun ev w''=>∃vo vl vc,ev= .returned (.agg #[.bool q.1,.slice vo vl vc,iV q.2.2])∧vl=(digits q.2.1).length∧aq w'' (.slice vo vl vc) q.2.1∧Below w'.heap.size w' w''
def de {α:Type} (a b c d:α):Nat→α
 |0=>a
 |1=>b
 |2=>c
 | _=>d
theorem zm {w:World} {g:Nat} {q0 q1 q2 q3:ap} {o0 o1 o2 o3:Option Addr} {l0 l1 l2 l3 c0 c1 c2 c3:Nat}
  (hg:w.heap[g]?=some (.cells #[.bool q0.1,.slice o0 l0 c0,iV q0.2.2,.bool q1.1,.slice o1 l1 c1,iV q1.2.2,.bool q2.1,.slice o2 l2 c2,iV q2.2.2,.bool q3.1,.slice o3 l3 c3,iV q3.2.2] 92 (0,0)))
  (e0:l0=(digits q0.2.1).length) (e1:l1=(digits q1.2.1).length) (e2:l2=(digits q2.2.1).length) (e3:l3=(digits q3.2.1).length)
  (n0:aq w (.slice o0 l0 c0) q0.2.1) (n1:aq w (.slice o1 l1 c1) q1.2.1) (n2:aq w (.slice o2 l2 c2) q2.2.1) (n3:aq w (.slice o3 l3 c3) q3.2.1)
  (s0:cV q0∧(digits q0.2.1).length≤400000) (s1:cV q1∧(digits q1.2.1).length≤400000) (s2:cV q2∧(digits q2.2.1).length≤400000) (s3:cV q3∧(digits q3.2.1).length≤400000):
  qL w g (de q0 q1 q2 q3) (de o0 o1 o2 o3) (de l0 l1 l2 l3) (de c0 c1 c2 c3):=by
 have hc:=fun i=>bf hg i
 have four:∀{P:Nat→Prop},P 0→P 1→P 2→P 3→∀i,i<4→P i:=by
  intro P p0 p1 p2 p3 i hi;rcases(show i=0∨i=1∨i=2∨i=3 by omega) with rfl|rfl|rfl|rfl
  ·exact p0
  ·exact p1
  ·exact p2
  ·exact p3
 exact⟨ag hg,four (hc 0) (hc 3) (hc 6) (hc 9),four (hc 1) (hc 4) (hc 7) (hc 10),four (hc 2) (hc 5) (hc 8) (hc 11),four e0 e1 e2 e3,four n0 n1 n2 n3,four s0 s1 s2 s3⟩
theorem wg (va vb:Value) (a1 a2 b1 b2:ap) (w:World) (ha:IvV w va a1 a2) (hb:IvV w vb b1 b2) (hz:holdsT b1 b2=true):
  aw 68 #[va,vb] w (.tuple #[.agg #[uV 0,uV 0],iV 4,.string ⟨#[47]⟩]):=by
 obtain⟨ao,la,ca,bo,lb,cb,rfl,hla,hlb,hna,hnb⟩:=ha;obtain⟨co,lc,cc,do_,ld,cd,rfl,hlc,hld,hnc,hnd⟩:=hb
 have HH:Hid (∀w',Below w.heap.size w w'→aw 121 #[.agg #[.bool b1.1,.slice co lc cc,iV b1.2.2,.bool b2.1,.slice do_ ld cd,iV b2.2.2]] w' (.bool true)):=by
  intro w' hb';have:=kB _ b1 b2 w' ⟨_,_,_,_,_,_,rfl,hlc,hld,hnc.below hb' ae,hnd.below hb' ae⟩;rwa [hz] at this
 clear hla hlb hna hnb hlc hld hnc hnd hz;go_enter Tryz.func68,Tryz.ntmps68;go_wp2_with fail;have B0:=ai (ai (af w (.cells #[.bool a1.1,.slice ao la ca,iV a1.2.2,.bool a2.1,.slice bo lb cb,iV a2.2.2] 98)) (.cells #[.bool b1.1,.slice co lc cc,iV b1.2.2,.bool b2.1,.slice do_ ld cd,iV b2.2.2] 98)) (.cells #[uV 0,uV 0] 28);have B1:=ai (af (w.alloc (.cells #[.bool a1.1,.slice ao la ca,iV a1.2.2,.bool a2.1,.slice bo lb cb,iV a2.2.2] 98)) (.cells #[.bool b1.1,.slice co lc cc,iV b1.2.2,.bool b2.1,.slice do_ ld cd,iV b2.2.2] 98)) (.cells #[uV 0,uV 0] 28);have B2:=af ((w.alloc (.cells #[.bool a1.1,.slice ao la ca,iV a1.2.2,.bool a2.1,.slice bo lb cb,iV a2.2.2] 98)).alloc (.cells #[.bool b1.1,.slice co lc cc,iV b1.2.2,.bool b2.1,.slice do_ ld cd,iV b2.2.2] 98)) (.cells #[uV 0,uV 0] 28);have hW:Below w.heap.size w (((w.alloc (.cells #[.bool a1.1,.slice ao la ca,iV a1.2.2,.bool a2.1,.slice bo lb cb,iV a2.2.2] 98)).alloc (.cells #[.bool b1.1,.slice co lc cc,iV b1.2.2,.bool b2.1,.slice do_ ld cd,iV b2.2.2] 98)).alloc (.cells #[uV 0,uV 0] 28)):=(aJ.alloc (by simp) _).alloc (by simp;omega) _;simp only[World.size_alloc] at B1 B2;generalize(((w.alloc (.cells #[.bool a1.1,.slice ao la ca,iV a1.2.2,.bool a2.1,.slice bo lb cb,iV a2.2.2] 98)).alloc (.cells #[.bool b1.1,.slice co lc cc,iV b1.2.2,.bool b2.1,.slice do_ ld cd,iV b2.2.2] 98)).alloc (.cells #[uV 0,uV 0] 28))=W2 at*;refine (HH.out _ hW).mono ?_;rintro ev w1 ⟨rfl,hb1⟩;have hW1:=hW.trans (hb1.mono hW.size);have C0:=aa B0 hb1;have C1:=aa B1 hb1;have C2:=aa B2 hb1;clear hb1 hW B0 B1 B2 HH;obtain⟨k0,k1,k2,k3⟩:=aj C2;have HW1:=hid hW1;clear C0 C1 C2 hW1;go_wp2_with fail
 try go_region
 try go_wp2_with fail
 refine bodyPost_ret (v:= .tuple #[.agg #[uV 0,uV 0],iV 4,.string ⟨#[47]⟩]) (by simp[results,Tryz.results68,go_sem,k0,k1]) rfl ?_;exact⟨rfl,by first|exact(HW1.out.setCell (by simp;omega) _).setCell (by simp;omega) _|exact((HW1.out.setCell (by simp;omega) _).setCell (by simp;omega) _).drew⟩
def fC (a1 b1:ap):ap:=if lessT a1 b1 then b1 else a1
def dK (a2 b2:ap):ap:=if lessT b2 a2 then b2 else a2
def jA (a1 a2 b1 b2:ap):Nat×Nat×Nat:=if lessT (dK a2 b2) (fC a1 b1) then(0,0,6) else((az (fC a1 b1) (dK a2 b2)).1,(az (fC a1 b1) (dK a2 b2)).2.1,0)
structure MSt (w W:World) (a b l h:Array Value):Prop where
 k0:W.heap[w.heap.size]?=some (.cells a 98 (0,0))
 k1:W.heap[w.heap.size+1]?=some (.cells b 98 (0,0))
 k2:W.heap[w.heap.size+1+1]?=some (.cells #[uV 0,uV 0] 28 (0,0))
 k3:W.heap[w.heap.size+1+1+1]?=some (.cells l 92 (0,0))
 k4:W.heap[w.heap.size+1+1+1+1]?=some (.cells h 92 (0,0))
 hb:Below w.heap.size w W
theorem MSt.below {w W W':World} {a b l h:Array Value} (m:MSt w W a b l h) (hb:Below W.heap.size W W'):MSt w W' a b l h:=
 ⟨aa m.k0 hb,aa m.k1 hb,aa m.k2 hb,aa m.k3 hb,aa m.k4 hb,m.hb.trans (hb.mono m.hb.size)⟩
theorem MSt.lo {w W:World} {a b h:Array Value} {x y z x' y' z':Value} (m:MSt w W a b #[x',y',z'] h):MSt w (((W.setCell ⟨w.heap.size+1+1+1,0,none⟩ x).setCell ⟨w.heap.size+1+1+1,1,none⟩ y).setCell ⟨w.heap.size+1+1+1,2,none⟩ z) a b #[x,y,z] h:=
 ⟨aD m.k0 (by omega),aD m.k1 (by omega),aD m.k2 (by omega),aY m.k3,aD m.k4 (by omega),((m.hb.setCell (by simp;omega) _).setCell (by simp;omega) _).setCell (by simp;omega) _⟩
theorem MSt.hi {w W:World} {a b l:Array Value} {x y z x' y' z':Value} (m:MSt w W a b l #[x',y',z']):MSt w (((W.setCell ⟨w.heap.size+1+1+1+1,0,none⟩ x).setCell ⟨w.heap.size+1+1+1+1,1,none⟩ y).setCell ⟨w.heap.size+1+1+1+1,2,none⟩ z) a b l #[x,y,z]:=
 ⟨aD m.k0 (by omega),aD m.k1 (by omega),aD m.k2 (by omega),aD m.k3 (by omega),aY m.k4,((m.hb.setCell (by simp;omega) _).setCell (by simp;omega) _).setCell (by simp;omega) _⟩
theorem D9 (va vb:Value) (a1 a2 b1 b2:ap) (w:World) (ha:IvV w va a1 a2) (hb:IvV w vb b1 b2)
  (s1:cV a1∧(digits a1.2.1).length≤400000) (s2:cV a2∧(digits a2.2.1).length≤400000) (s3:cV b1∧(digits b1.2.1).length≤400000) (s4:cV b2∧(digits b2.2.1).length≤400000):
  aw 64 #[va,vb] w (.tuple #[.agg #[uV ((jA a1 a2 b1 b2).1:Int),uV ((jA a1 a2 b1 b2).2.1:Int)],iV ((jA a1 a2 b1 b2).2.2:Int),.string ⟨#[]⟩]):=by
 obtain⟨ao,la,ca,bo,lb,cb,rfl,hla,hlb,hna,hnb⟩:=ha;obtain⟨co,lc,cc,do_,ld,cd,rfl,hlc,hld,hnc,hnd⟩:=hb
 have less:∀(x y:ap) (u v:Value) (w':World),(cV x∧(digits x.2.1).length≤400000)→(cV y∧(digits y.2.1).length≤400000)→aM w' u x.1 x.2.1 x.2.2→aM w' v y.1 y.2.1 y.2.2→aw 58 #[u,v] w' (.bool (lessT x y)):=by
  intro x y u v w' sx sy hu hv;obtain⟨⟨_,p2,p3⟩,p4⟩:=sx;obtain⟨⟨_,q2,q3⟩,q4⟩:=sy;exact kR _ _ _ _ _ _ _ _ w' hu hv p4 q4 (by omega) (by omega) (by omega) (by omega)
 have NA:∀w',Below w.heap.size w w'→aM w' (.agg #[.bool a1.1,.slice ao la ca,iV a1.2.2]) a1.1 a1.2.1 a1.2.2∧aM w' (.agg #[.bool a2.1,.slice bo lb cb,iV a2.2.2]) a2.1 a2.2.1 a2.2.2∧aM w' (.agg #[.bool b1.1,.slice co lc cc,iV b1.2.2]) b1.1 b1.2.1 b1.2.2∧aM w' (.agg #[.bool b2.1,.slice do_ ld cd,iV b2.2.2]) b2.1 b2.2.1 b2.2.2:=fun w' hb=>⟨⟨_,_,_,rfl,hla,hna.below hb ae⟩,⟨_,_,_,rfl,hlb,hnb.below hb ae⟩,⟨_,_,_,rfl,hlc,hnc.below hb ae⟩,⟨_,_,_,rfl,hld,hnd.below hb ae⟩⟩
 have C1:=hid (fun(w':World) (hb:Below w.heap.size w w')=>less _ _ _ _ w' s1 s3 (NA w' hb).1 (NA w' hb).2.2.1);have C2:=hid (fun(w':World) (hb:Below w.heap.size w w')=>less _ _ _ _ w' s4 s2 (NA w' hb).2.2.2 (NA w' hb).2.1);have D00:=hid (fun(w':World) (hb:Below w.heap.size w w')=>less _ _ _ _ w' s2 s1 (NA w' hb).2.1 (NA w' hb).1);have R00:=hid (fun(w':World) (hb:Below w.heap.size w w')=>eJ _ _ _ _ w' (NA w' hb).1 (NA w' hb).2.1 s1.1 s2.1);have D01:=hid (fun(w':World) (hb:Below w.heap.size w w')=>less _ _ _ _ w' s2 s3 (NA w' hb).2.1 (NA w' hb).2.2.1);have R10:=hid (fun(w':World) (hb:Below w.heap.size w w')=>eJ _ _ _ _ w' (NA w' hb).2.2.1 (NA w' hb).2.1 s3.1 s2.1);have D10:=hid (fun(w':World) (hb:Below w.heap.size w w')=>less _ _ _ _ w' s4 s1 (NA w' hb).2.2.2 (NA w' hb).1);have R01:=hid (fun(w':World) (hb:Below w.heap.size w w')=>eJ _ _ _ _ w' (NA w' hb).1 (NA w' hb).2.2.2 s1.1 s4.1);have D11:=hid (fun(w':World) (hb:Below w.heap.size w w')=>less _ _ _ _ w' s4 s3 (NA w' hb).2.2.2 (NA w' hb).2.2.1);have R11:=hid (fun(w':World) (hb:Below w.heap.size w w')=>eJ _ _ _ _ w' (NA w' hb).2.2.1 (NA w' hb).2.2.2 s3.1 s4.1);have MT:Hid (jA a1 a2 b1 b2=if lessT (dK a2 b2) (fC a1 b1) then(0,0,6) else((az (fC a1 b1) (dK a2 b2)).1,(az (fC a1 b1) (dK a2 b2)).2.1,0)):=rfl;clear less NA s1 s2 s3 s4 hla hlb hlc hld hna hnb hnc hnd;go_enter Tryz.func64,Tryz.ntmps64;go_wp2_with fail
 have m0:Hid (MSt w (((((w.alloc (.cells #[.bool a1.1,.slice ao la ca,iV a1.2.2,.bool a2.1,.slice bo lb cb,iV a2.2.2] 98)).alloc (.cells #[.bool b1.1,.slice co lc cc,iV b1.2.2,.bool b2.1,.slice do_ ld cd,iV b2.2.2] 98)).alloc (.cells #[uV 0,uV 0] 28)).alloc (.cells #[.bool a1.1,.slice ao la ca,iV a1.2.2] 92)).alloc (.cells #[.bool a2.1,.slice bo lb cb,iV a2.2.2] 92)) #[.bool a1.1,.slice ao la ca,iV a1.2.2,.bool a2.1,.slice bo lb cb,iV a2.2.2] #[.bool b1.1,.slice co lc cc,iV b1.2.2,.bool b2.1,.slice do_ ld cd,iV b2.2.2] #[.bool a1.1,.slice ao la ca,iV a1.2.2] #[.bool a2.1,.slice bo lb cb,iV a2.2.2]):=by
  have B0:=ai (ai (ai (ai (af w (.cells #[.bool a1.1,.slice ao la ca,iV a1.2.2,.bool a2.1,.slice bo lb cb,iV a2.2.2] 98)) (.cells #[.bool b1.1,.slice co lc cc,iV b1.2.2,.bool b2.1,.slice do_ ld cd,iV b2.2.2] 98)) (.cells #[uV 0,uV 0] 28)) (.cells #[.bool a1.1,.slice ao la ca,iV a1.2.2] 92)) (.cells #[.bool a2.1,.slice bo lb cb,iV a2.2.2] 92);have B1:=ai (ai (ai (af (w.alloc (.cells #[.bool a1.1,.slice ao la ca,iV a1.2.2,.bool a2.1,.slice bo lb cb,iV a2.2.2] 98)) (.cells #[.bool b1.1,.slice co lc cc,iV b1.2.2,.bool b2.1,.slice do_ ld cd,iV b2.2.2] 98)) (.cells #[uV 0,uV 0] 28)) (.cells #[.bool a1.1,.slice ao la ca,iV a1.2.2] 92)) (.cells #[.bool a2.1,.slice bo lb cb,iV a2.2.2] 92);have B2:=ai (ai (af ((w.alloc (.cells #[.bool a1.1,.slice ao la ca,iV a1.2.2,.bool a2.1,.slice bo lb cb,iV a2.2.2] 98)).alloc (.cells #[.bool b1.1,.slice co lc cc,iV b1.2.2,.bool b2.1,.slice do_ ld cd,iV b2.2.2] 98)) (.cells #[uV 0,uV 0] 28)) (.cells #[.bool a1.1,.slice ao la ca,iV a1.2.2] 92)) (.cells #[.bool a2.1,.slice bo lb cb,iV a2.2.2] 92);have B3:=ai (af (((w.alloc (.cells #[.bool a1.1,.slice ao la ca,iV a1.2.2,.bool a2.1,.slice bo lb cb,iV a2.2.2] 98)).alloc (.cells #[.bool b1.1,.slice co lc cc,iV b1.2.2,.bool b2.1,.slice do_ ld cd,iV b2.2.2] 98)).alloc (.cells #[uV 0,uV 0] 28)) (.cells #[.bool a1.1,.slice ao la ca,iV a1.2.2] 92)) (.cells #[.bool a2.1,.slice bo lb cb,iV a2.2.2] 92);have B4:=af ((((w.alloc (.cells #[.bool a1.1,.slice ao la ca,iV a1.2.2,.bool a2.1,.slice bo lb cb,iV a2.2.2] 98)).alloc (.cells #[.bool b1.1,.slice co lc cc,iV b1.2.2,.bool b2.1,.slice do_ ld cd,iV b2.2.2] 98)).alloc (.cells #[uV 0,uV 0] 28)).alloc (.cells #[.bool a1.1,.slice ao la ca,iV a1.2.2] 92)) (.cells #[.bool a2.1,.slice bo lb cb,iV a2.2.2] 92);simp only[World.size_alloc] at B1 B2 B3 B4;exact⟨B0,B1,B2,B3,B4,(((aJ.alloc (by simp) _).alloc (by simp;omega) _).alloc (by simp;omega) _).alloc (by simp;omega) _⟩
 generalize(((((w.alloc (.cells #[.bool a1.1,.slice ao la ca,iV a1.2.2,.bool a2.1,.slice bo lb cb,iV a2.2.2] 98)).alloc (.cells #[.bool b1.1,.slice co lc cc,iV b1.2.2,.bool b2.1,.slice do_ ld cd,iV b2.2.2] 98)).alloc (.cells #[uV 0,uV 0] 28)).alloc (.cells #[.bool a1.1,.slice ao la ca,iV a1.2.2] 92)).alloc (.cells #[.bool a2.1,.slice bo lb cb,iV a2.2.2] 92))=W2 at*;refine (C1.out _ m0.out.hb).mono ?_;rintro ev w1 ⟨rfl,hb1⟩;have m1:=hid (m0.out.below hb1);clear hb1 m0 C1;obtain⟨x0,x1,x2,x3,x4,x5,-,-,-,-,-,-⟩:=bH m1.out.k0;obtain⟨y0,y1,y2,y3,y4,y5,-,-,-,-,-,-⟩:=bH m1.out.k1;obtain⟨l0,l1,l2,l3,l4,l5⟩:=aB m1.out.k3;obtain⟨h0,h1,h2,h3,h4,h5⟩:=aB m1.out.k4
 cases t1:lessT a1 b1
 ·have ML:Hid (fC a1 b1=a1):=by show _=_;unfold fC;rw[t1];rfl
  clear t1;go_wp2_with fail;refine (C2.out _ m1.out.hb).mono ?_;rintro ev w2 ⟨rfl,hb2⟩;have m2:=hid (m1.out.below hb2);clear hb2 m1 C2 x0 x1 x2 x3 x4 x5 y0 y1 y2 y3 y4 y5 l0 l1 l2 l3 l4 l5 h0 h1 h2 h3 h4 h5;obtain⟨x0,x1,x2,x3,x4,x5,-,-,-,-,-,-⟩:=bH m2.out.k0;obtain⟨y0,y1,y2,y3,y4,y5,-,-,-,-,-,-⟩:=bH m2.out.k1;obtain⟨l0,l1,l2,l3,l4,l5⟩:=aB m2.out.k3;obtain⟨h0,h1,h2,h3,h4,h5⟩:=aB m2.out.k4
  cases t2:lessT b2 a2
  ·have MH:Hid (dK a2 b2=a2):=by show _=_;unfold dK;rw[t2];rfl
   clear t2;have F:=MT.out;rw[ML.out,MH.out] at F;have FT:=hid F;clear F;go_wp2_with fail;refine (D00.out _ m2.out.hb).mono ?_;rintro ev w4 ⟨rfl,hb4⟩;have m4:=hid (m2.out.below hb4);clear hb4 m2 x0 x1 x2 x3 x4 x5 y0 y1 y2 y3 y4 y5 l0 l1 l2 l3 l4 l5 h0 h1 h2 h3 h4 h5;obtain⟨x0,x1,x2,x3,x4,x5,-,-,-,-,-,-⟩:=bH m4.out.k0;obtain⟨y0,y1,y2,y3,y4,y5,-,-,-,-,-,-⟩:=bH m4.out.k1;obtain⟨l0,l1,l2,l3,l4,l5⟩:=aB m4.out.k3;obtain⟨h0,h1,h2,h3,h4,h5⟩:=aB m4.out.k4;obtain⟨z0,z1,z2,z3⟩:=aj m4.out.k2
   cases t3:lessT a2 a1
   ·have G:=FT.out;rw[t3,if_neg Bool.false_ne_true] at G;have GT:=hid G;clear G FT t3;go_wp2_with fail;refine (R00.out _ m4.out.hb).mono ?_;rintro ev w6 ⟨rfl,hb6⟩;have m6:=hid (m4.out.below hb6);clear hb6 m4 x0 x1 x2 x3 x4 x5 y0 y1 y2 y3 y4 y5 l0 l1 l2 l3 l4 l5 h0 h1 h2 h3 h4 h5 z0 z1 z2 z3;obtain⟨z0,z1,z2,z3⟩:=aj m6.out.k2;have hlt:=ag m6.out.k2;go_wp2_with fail;obtain⟨p0,p1,-,-⟩:=aj (ai (aA (a:=uV ((az a1 a2).1:Int)) (b:=uV ((az a1 a2).2.1:Int)) m6.out.k2) (.cells #[uV ((az a1 a2).1:Int),uV ((az a1 a2).2.1:Int)] 28));refine bodyPost_ret (v:= .tuple #[.agg #[uV ((az a1 a2).1:Int),uV ((az a1 a2).2.1:Int)],iV 0,.string ⟨#[]⟩]) (by simp[results,Tryz.results64,go_sem,p0,p1]) rfl ?_;rw[GT.out];exact⟨rfl,((m6.out.hb.setCell (by simp;omega) _).setCell (by simp;omega) _).alloc (by have:=m6.out.hb.size;simp;omega) _⟩
   ·have G:=FT.out;rw[t3,if_pos rfl] at G;have GT:=hid G;clear G FT t3;go_wp2_with fail;refine bodyPost_ret (v:= .tuple #[.agg #[uV 0,uV 0],iV 6,.string ⟨#[]⟩]) (by simp[results,Tryz.results64,go_sem,z0,z1]) rfl ?_;rw[GT.out];exact⟨rfl,(m4.out.hb.setCell (by simp;omega) _).setCell (by simp;omega) _⟩
  ·have MH:Hid (dK a2 b2=b2):=by show _=_;unfold dK;rw[t2];rfl
   clear t2;have F:=MT.out;rw[ML.out,MH.out] at F;have FT:=hid F;clear F;go_wp2_with fail;have m2':Hid (MSt w (((w2.setCell ⟨w.heap.size+1+1+1+1,0,none⟩ (.bool b2.1)).setCell ⟨w.heap.size+1+1+1+1,1,none⟩ (.slice do_ ld cd)).setCell ⟨w.heap.size+1+1+1+1,2,none⟩ (iV b2.2.2)) _ _ _ #[.bool b2.1,.slice do_ ld cd,iV b2.2.2]):=m2.out.hi;generalize(((w2.setCell ⟨w.heap.size+1+1+1+1,0,none⟩ (.bool b2.1)).setCell ⟨w.heap.size+1+1+1+1,1,none⟩ (.slice do_ ld cd)).setCell ⟨w.heap.size+1+1+1+1,2,none⟩ (iV b2.2.2))=W5 at*;refine (D10.out _ m2'.out.hb).mono ?_;rintro ev w4 ⟨rfl,hb4⟩;have m4:=hid (m2'.out.below hb4);clear m2';clear hb4 m2 x0 x1 x2 x3 x4 x5 y0 y1 y2 y3 y4 y5 l0 l1 l2 l3 l4 l5 h0 h1 h2 h3 h4 h5;obtain⟨x0,x1,x2,x3,x4,x5,-,-,-,-,-,-⟩:=bH m4.out.k0;obtain⟨y0,y1,y2,y3,y4,y5,-,-,-,-,-,-⟩:=bH m4.out.k1;obtain⟨l0,l1,l2,l3,l4,l5⟩:=aB m4.out.k3;obtain⟨h0,h1,h2,h3,h4,h5⟩:=aB m4.out.k4;obtain⟨z0,z1,z2,z3⟩:=aj m4.out.k2
   cases t3:lessT b2 a1
   ·have G:=FT.out;rw[t3,if_neg Bool.false_ne_true] at G;have GT:=hid G;clear G FT t3;go_wp2_with fail;refine (R01.out _ m4.out.hb).mono ?_;rintro ev w6 ⟨rfl,hb6⟩;have m6:=hid (m4.out.below hb6);clear hb6 m4 x0 x1 x2 x3 x4 x5 y0 y1 y2 y3 y4 y5 l0 l1 l2 l3 l4 l5 h0 h1 h2 h3 h4 h5 z0 z1 z2 z3;obtain⟨z0,z1,z2,z3⟩:=aj m6.out.k2;have hlt:=ag m6.out.k2;go_wp2_with fail;obtain⟨p0,p1,-,-⟩:=aj (ai (aA (a:=uV ((az a1 b2).1:Int)) (b:=uV ((az a1 b2).2.1:Int)) m6.out.k2) (.cells #[uV ((az a1 b2).1:Int),uV ((az a1 b2).2.1:Int)] 28));refine bodyPost_ret (v:= .tuple #[.agg #[uV ((az a1 b2).1:Int),uV ((az a1 b2).2.1:Int)],iV 0,.string ⟨#[]⟩]) (by simp[results,Tryz.results64,go_sem,p0,p1]) rfl ?_;rw[GT.out];exact⟨rfl,((m6.out.hb.setCell (by simp;omega) _).setCell (by simp;omega) _).alloc (by have:=m6.out.hb.size;simp;omega) _⟩
   ·have G:=FT.out;rw[t3,if_pos rfl] at G;have GT:=hid G;clear G FT t3;go_wp2_with fail;refine bodyPost_ret (v:= .tuple #[.agg #[uV 0,uV 0],iV 6,.string ⟨#[]⟩]) (by simp[results,Tryz.results64,go_sem,z0,z1]) rfl ?_;rw[GT.out];exact⟨rfl,(m4.out.hb.setCell (by simp;omega) _).setCell (by simp;omega) _⟩
 ·have ML:Hid (fC a1 b1=b1):=by show _=_;unfold fC;rw[t1];rfl
  clear t1;go_wp2_with fail;have m1':Hid (MSt w (((w1.setCell ⟨w.heap.size+1+1+1,0,none⟩ (.bool b1.1)).setCell ⟨w.heap.size+1+1+1,1,none⟩ (.slice co lc cc)).setCell ⟨w.heap.size+1+1+1,2,none⟩ (iV b1.2.2)) _ _ #[.bool b1.1,.slice co lc cc,iV b1.2.2] _):=m1.out.lo;generalize(((w1.setCell ⟨w.heap.size+1+1+1,0,none⟩ (.bool b1.1)).setCell ⟨w.heap.size+1+1+1,1,none⟩ (.slice co lc cc)).setCell ⟨w.heap.size+1+1+1,2,none⟩ (iV b1.2.2))=W3 at*;refine (C2.out _ m1'.out.hb).mono ?_;rintro ev w2 ⟨rfl,hb2⟩;have m2:=hid (m1'.out.below hb2);clear m1';clear hb2 m1 C2 x0 x1 x2 x3 x4 x5 y0 y1 y2 y3 y4 y5 l0 l1 l2 l3 l4 l5 h0 h1 h2 h3 h4 h5;obtain⟨x0,x1,x2,x3,x4,x5,-,-,-,-,-,-⟩:=bH m2.out.k0;obtain⟨y0,y1,y2,y3,y4,y5,-,-,-,-,-,-⟩:=bH m2.out.k1;obtain⟨l0,l1,l2,l3,l4,l5⟩:=aB m2.out.k3;obtain⟨h0,h1,h2,h3,h4,h5⟩:=aB m2.out.k4
  cases t2:lessT b2 a2
  ·have MH:Hid (dK a2 b2=a2):=by show _=_;unfold dK;rw[t2];rfl
   clear t2;have F:=MT.out;rw[ML.out,MH.out] at F;have FT:=hid F;clear F;go_wp2_with fail;refine (D01.out _ m2.out.hb).mono ?_;rintro ev w4 ⟨rfl,hb4⟩;have m4:=hid (m2.out.below hb4);clear hb4 m2 x0 x1 x2 x3 x4 x5 y0 y1 y2 y3 y4 y5 l0 l1 l2 l3 l4 l5 h0 h1 h2 h3 h4 h5;obtain⟨x0,x1,x2,x3,x4,x5,-,-,-,-,-,-⟩:=bH m4.out.k0;obtain⟨y0,y1,y2,y3,y4,y5,-,-,-,-,-,-⟩:=bH m4.out.k1;obtain⟨l0,l1,l2,l3,l4,l5⟩:=aB m4.out.k3;obtain⟨h0,h1,h2,h3,h4,h5⟩:=aB m4.out.k4;obtain⟨z0,z1,z2,z3⟩:=aj m4.out.k2
   cases t3:lessT a2 b1
   ·have G:=FT.out;rw[t3,if_neg Bool.false_ne_true] at G;have GT:=hid G;clear G FT t3;go_wp2_with fail;refine (R10.out _ m4.out.hb).mono ?_;rintro ev w6 ⟨rfl,hb6⟩;have m6:=hid (m4.out.below hb6);clear hb6 m4 x0 x1 x2 x3 x4 x5 y0 y1 y2 y3 y4 y5 l0 l1 l2 l3 l4 l5 h0 h1 h2 h3 h4 h5 z0 z1 z2 z3;obtain⟨z0,z1,z2,z3⟩:=aj m6.out.k2;have hlt:=ag m6.out.k2;go_wp2_with fail;obtain⟨p0,p1,-,-⟩:=aj (ai (aA (a:=uV ((az b1 a2).1:Int)) (b:=uV ((az b1 a2).2.1:Int)) m6.out.k2) (.cells #[uV ((az b1 a2).1:Int),uV ((az b1 a2).2.1:Int)] 28));refine bodyPost_ret (v:= .tuple #[.agg #[uV ((az b1 a2).1:Int),uV ((az b1 a2).2.1:Int)],iV 0,.string ⟨#[]⟩]) (by simp[results,Tryz.results64,go_sem,p0,p1]) rfl ?_;rw[GT.out];exact⟨rfl,((m6.out.hb.setCell (by simp;omega) _).setCell (by simp;omega) _).alloc (by have:=m6.out.hb.size;simp;omega) _⟩
   ·have G:=FT.out;rw[t3,if_pos rfl] at G;have GT:=hid G;clear G FT t3;go_wp2_with fail;refine bodyPost_ret (v:= .tuple #[.agg #[uV 0,uV 0],iV 6,.string ⟨#[]⟩]) (by simp[results,Tryz.results64,go_sem,z0,z1]) rfl ?_;rw[GT.out];exact⟨rfl,(m4.out.hb.setCell (by simp;omega) _).setCell (by simp;omega) _⟩
  ·have MH:Hid (dK a2 b2=b2):=by show _=_;unfold dK;rw[t2];rfl
   clear t2;have F:=MT.out;rw[ML.out,MH.out] at F;have FT:=hid F;clear F;go_wp2_with fail;have m2':Hid (MSt w (((w2.setCell ⟨w.heap.size+1+1+1+1,0,none⟩ (.bool b2.1)).setCell ⟨w.heap.size+1+1+1+1,1,none⟩ (.slice do_ ld cd)).setCell ⟨w.heap.size+1+1+1+1,2,none⟩ (iV b2.2.2)) _ _ _ #[.bool b2.1,.slice do_ ld cd,iV b2.2.2]):=m2.out.hi;generalize(((w2.setCell ⟨w.heap.size+1+1+1+1,0,none⟩ (.bool b2.1)).setCell ⟨w.heap.size+1+1+1+1,1,none⟩ (.slice do_ ld cd)).setCell ⟨w.heap.size+1+1+1+1,2,none⟩ (iV b2.2.2))=W5 at*;refine (D11.out _ m2'.out.hb).mono ?_;rintro ev w4 ⟨rfl,hb4⟩;have m4:=hid (m2'.out.below hb4);clear m2';clear hb4 m2 x0 x1 x2 x3 x4 x5 y0 y1 y2 y3 y4 y5 l0 l1 l2 l3 l4 l5 h0 h1 h2 h3 h4 h5;obtain⟨x0,x1,x2,x3,x4,x5,-,-,-,-,-,-⟩:=bH m4.out.k0;obtain⟨y0,y1,y2,y3,y4,y5,-,-,-,-,-,-⟩:=bH m4.out.k1;obtain⟨l0,l1,l2,l3,l4,l5⟩:=aB m4.out.k3;obtain⟨h0,h1,h2,h3,h4,h5⟩:=aB m4.out.k4;obtain⟨z0,z1,z2,z3⟩:=aj m4.out.k2
   cases t3:lessT b2 b1
   ·have G:=FT.out;rw[t3,if_neg Bool.false_ne_true] at G;have GT:=hid G;clear G FT t3;go_wp2_with fail;refine (R11.out _ m4.out.hb).mono ?_;rintro ev w6 ⟨rfl,hb6⟩;have m6:=hid (m4.out.below hb6);clear hb6 m4 x0 x1 x2 x3 x4 x5 y0 y1 y2 y3 y4 y5 l0 l1 l2 l3 l4 l5 h0 h1 h2 h3 h4 h5 z0 z1 z2 z3;obtain⟨z0,z1,z2,z3⟩:=aj m6.out.k2;have hlt:=ag m6.out.k2;go_wp2_with fail;obtain⟨p0,p1,-,-⟩:=aj (ai (aA (a:=uV ((az b1 b2).1:Int)) (b:=uV ((az b1 b2).2.1:Int)) m6.out.k2) (.cells #[uV ((az b1 b2).1:Int),uV ((az b1 b2).2.1:Int)] 28));refine bodyPost_ret (v:= .tuple #[.agg #[uV ((az b1 b2).1:Int),uV ((az b1 b2).2.1:Int)],iV 0,.string ⟨#[]⟩]) (by simp[results,Tryz.results64,go_sem,p0,p1]) rfl ?_;rw[GT.out];exact⟨rfl,((m6.out.hb.setCell (by simp;omega) _).setCell (by simp;omega) _).alloc (by have:=m6.out.hb.size;simp;omega) _⟩
   ·have G:=FT.out;rw[t3,if_pos rfl] at G;have GT:=hid G;clear G FT t3;go_wp2_with fail;refine bodyPost_ret (v:= .tuple #[.agg #[uV 0,uV 0],iV 6,.string ⟨#[]⟩]) (by simp[results,Tryz.results64,go_sem,z0,z1]) rfl ?_;rw[GT.out];exact⟨rfl,(m4.out.hb.setCell (by simp;omega) _).setCell (by simp;omega) _⟩
structure DSt (w W:World) (g2 ga gb n0:Nat) (a b:Array Value):Prop where
 k0:W.heap[ga]?=some (.cells a 98 (0,0))
 k1:W.heap[gb]?=some (.cells b 98 (0,0))
 k2:W.heap[g2]?=some (.cells #[uV 0,uV 0] 28 (0,0))
 hb:Below w.heap.size w W
 h0:ga<n0
 h1:gb<n0
 h2:g2<n0
 sz:n0≤W.heap.size
 l2:w.heap.size≤g2
theorem DSt.below {w W W':World} {g2 ga gb n0:Nat} {a b:Array Value} (m:DSt w W g2 ga gb n0 a b) (hb:Below W.heap.size W W'):DSt w W' g2 ga gb n0 a b:=
 ⟨aa m.k0 hb,aa m.k1 hb,aa m.k2 hb,m.hb.trans (hb.mono m.hb.size),m.h0,m.h1,m.h2,Nat.le_trans m.sz hb.size,m.l2⟩
theorem DSt.alloc {w W:World} {g2 ga gb n0:Nat} {a b:Array Value} (m:DSt w W g2 ga gb n0 a b) (o:Obj):DSt w (W.alloc o) g2 ga gb n0 a b:=m.below (aK.alloc ae o)
theorem DSt.drew {w W:World} {g2 ga gb n0:Nat} {a b:Array Value} (m:DSt w W g2 ga gb n0 a b):DSt w W.drew g2 ga gb n0 a b:=⟨m.k0,m.k1,m.k2,m.hb.drew,m.h0,m.h1,m.h2,m.sz,m.l2⟩
def bD (n0:Nat) (W:World) (g:Nat):Prop:=W.heap[g]?=some (.cells #[uV 0,uV 0] 28 (0,0))∧n0≤g
theorem bD.below {n0 g:Nat} {W W':World} (h:bD n0 W g) (hb:Below W.heap.size W W'):bD n0 W' g:=⟨aa h.1 hb,h.2⟩
theorem bD.alloc {n0 g:Nat} {W:World} (h:bD n0 W g) (o:Obj):bD n0 (W.alloc o) g:=⟨ai h.1 o,h.2⟩
theorem bD.new {n0:Nat} {W:World} (h:n0≤W.heap.size):bD n0 (W.alloc (.cells #[uV 0,uV 0] 28)) W.heap.size:=⟨af W _,h⟩
theorem bD.drew {n0 g:Nat} {W:World} (h:bD n0 W g):bD n0 W.drew g:=h
theorem DSt.set2 {w W:World} {g2 ga gb n0 g:Nat} {a b:Array Value} (m:DSt w W g2 ga gb n0 a b) (z:bD n0 W g) (x y:Value):DSt w ((W.setCell ⟨g,0,none⟩ x).setCell ⟨g,1,none⟩ y) g2 ga gb n0 a b:=by
 have e0:ga≠g:=by have:=m.h0;have:=z.2;omega
 have e1:gb≠g:=by have:=m.h1;have:=z.2;omega
 have e2:g2≠g:=by have:=m.h2;have:=z.2;omega
 have e3:w.heap.size≤g:=by have:=m.h2;have:=z.2;have:=m.l2;omega
 exact⟨aG (aG m.k0 e0) e0,aG (aG m.k1 e1) e1,aG (aG m.k2 e2) e2,(m.hb.setCell (by exact e3) _).setCell (by exact e3) _,m.h0,m.h1,m.h2,by simp only[World.size_setCell];exact m.sz,m.l2⟩
theorem DSt.cells {w W:World} {g2 ga gb n0:Nat} {p0 p1 p2 p3 p4 p5 q0 q1 q2 q3 q4 q5:Value} (m:DSt w W g2 ga gb n0 #[p0,p1,p2,p3,p4,p5] #[q0,q1,q2,q3,q4,q5]):
  W.cell? ⟨ga,0,none⟩=some p0∧W.cell? ⟨ga,1,none⟩=some p1∧W.cell? ⟨ga,2,none⟩=some p2∧W.cell? ⟨ga,3,none⟩=some p3∧W.cell? ⟨ga,4,none⟩=some p4∧W.cell? ⟨ga,5,none⟩=some p5∧W.cell? ⟨gb,0,none⟩=some q0∧W.cell? ⟨gb,1,none⟩=some q1∧W.cell? ⟨gb,2,none⟩=some q2∧W.cell? ⟨gb,3,none⟩=some q3∧W.cell? ⟨gb,4,none⟩=some q4∧W.cell? ⟨gb,5,none⟩=some q5:=by
 obtain⟨x0,x1,x2,x3,x4,x5,-,-,-,-,-,-⟩:=bH m.k0;obtain⟨y0,y1,y2,y3,y4,y5,-,-,-,-,-,-⟩:=bH m.k1;exact⟨x0,x1,x2,x3,x4,x5,y0,y1,y2,y3,y4,y5⟩
structure Fin (w W:World) (g2 g:Nat) (x y:Value):Prop where
 c:W.heap[g]?=some (.cells #[x,y] 28 (0,0))
 k2:W.heap[g2]?=some (.cells #[uV 0,uV 0] 28 (0,0))
 hb:Below w.heap.size w W
 l2:w.heap.size≤g2
theorem DSt.finSet {w W:World} {g2 ga gb n0 g:Nat} {a b:Array Value} (m:DSt w W g2 ga gb n0 a b) (z:bD n0 W g) (x y:Value):Fin w ((W.setCell ⟨g,0,none⟩ x).setCell ⟨g,1,none⟩ y) g2 g x y:=
 ⟨aA z.1,(m.set2 z x y).k2,(m.set2 z x y).hb,m.l2⟩
theorem DSt.finNew {w W:World} {g2 ga gb n0:Nat} {a b:Array Value} (m:DSt w W g2 ga gb n0 a b) (x y:Value):Fin w (W.alloc (.cells #[x,y] 28)) g2 W.heap.size x y:=
 ⟨af W _,(m.alloc _).k2,(m.alloc _).hb,m.l2⟩
theorem yG (va vb:Value) (a1 a2 b1 b2 q0 q1 q2 q3:ap) (w:World) (ha:IvV w va a1 a2) (hb:IvV w vb b1 b2) (hz:holdsT b1 b2=false)
  (hq0:∀u v w',aM w' u a1.1 a1.2.1 a1.2.2→aM w' v b1.1 b1.2.1 b1.2.2→ax 122 #[u,v] w' fun ev w''=>∃x,ev= .returned x∧aM w'' x q0.1 q0.2.1 q0.2.2∧Below w'.heap.size w' w'')
  (hq1:∀u v w',aM w' u a1.1 a1.2.1 a1.2.2→aM w' v b2.1 b2.2.1 b2.2.2→ax 122 #[u,v] w' fun ev w''=>∃x,ev= .returned x∧aM w'' x q1.1 q1.2.1 q1.2.2∧Below w'.heap.size w' w'')
  (hq2:∀u v w',aM w' u a2.1 a2.2.1 a2.2.2→aM w' v b1.1 b1.2.1 b1.2.2→ax 122 #[u,v] w' fun ev w''=>∃x,ev= .returned x∧aM w'' x q2.1 q2.2.1 q2.2.2∧Below w'.heap.size w' w'')
  (hq3:∀u v w',aM w' u a2.1 a2.2.1 a2.2.2→aM w' v b2.1 b2.2.1 b2.2.2→ax 122 #[u,v] w' fun ev w''=>∃x,ev= .returned x∧aM w'' x q3.1 q3.2.1 q3.2.2∧Below w'.heap.size w' w'')
  (s0:cV q0∧(digits q0.2.1).length≤400000) (s1:cV q1∧(digits q1.2.1).length≤400000) (s2:cV q2∧(digits q2.2.1).length≤400000) (s3:cV q3∧(digits q3.2.1).length≤400000) (r:Nat×Nat×Nat) (hr:r=az (de q0 q1 q2 q3 (bR (de q0 q1 q2 q3) 3)) (de q0 q1 q2 q3 (bS (de q0 q1 q2 q3) 3))):
  aw 68 #[va,vb] w (.tuple #[.agg #[uV ((aO r ⟨#[47]⟩).1:Int),uV ((aO r ⟨#[47]⟩).2.1:Int)],iV ((aO r ⟨#[47]⟩).2.2.1:Int),.string (aO r ⟨#[47]⟩).2.2.2]):=by
 obtain⟨ao,la,ca,bo,lb,cb,rfl,hla,hlb,hna,hnb⟩:=ha;obtain⟨co,lc,cc,do_,ld,cd,rfl,hlc,hld,hnc,hnd⟩:=hb
 have HH:Hid (∀w',Below w.heap.size w w'→aw 121 #[.agg #[.bool b1.1,.slice co lc cc,iV b1.2.2,.bool b2.1,.slice do_ ld cd,iV b2.2.2]] w' (.bool false)):=by
  intro w' hb';have:=kB _ b1 b2 w' ⟨_,_,_,_,_,_,rfl,hlc,hld,hnc.below hb' ae,hnd.below hb' ae⟩;rwa [hz] at this
 have NA:∀w',Below w.heap.size w w'→aM w' (.agg #[.bool a1.1,.slice ao la ca,iV a1.2.2]) a1.1 a1.2.1 a1.2.2∧aM w' (.agg #[.bool a2.1,.slice bo lb cb,iV a2.2.2]) a2.1 a2.2.1 a2.2.2∧aM w' (.agg #[.bool b1.1,.slice co lc cc,iV b1.2.2]) b1.1 b1.2.1 b1.2.2∧aM w' (.agg #[.bool b2.1,.slice do_ ld cd,iV b2.2.2]) b2.1 b2.2.1 b2.2.2:=fun w' hb=>⟨⟨_,_,_,rfl,hla,hna.below hb ae⟩,⟨_,_,_,rfl,hlb,hnb.below hb ae⟩,⟨_,_,_,rfl,hlc,hnc.below hb ae⟩,⟨_,_,_,rfl,hld,hnd.below hb ae⟩⟩
 have Q0:Hid (∀w',Below w.heap.size w w'→ax 122 #[.agg #[.bool a1.1,.slice ao la ca,iV a1.2.2],.agg #[.bool b1.1,.slice co lc cc,iV b1.2.2]] w' fun ev w''=>∃vo vl vc,ev= .returned (.agg #[.bool q0.1,.slice vo vl vc,iV q0.2.2])∧vl=(digits q0.2.1).length∧aq w'' (.slice vo vl vc) q0.2.1∧Below w'.heap.size w' w''):=fun w' hb=>(hq0 _ _ w' (NA w' hb).1 (NA w' hb).2.2.1).mono (fun ev w'' h=>by obtain⟨x,h1,⟨vo,vl,vc,rfl,h2,h3⟩,h4⟩:=h;exact⟨vo,vl,vc,h1,h2,h3,h4⟩)
 have Q1:Hid (∀w',Below w.heap.size w w'→ax 122 #[.agg #[.bool a1.1,.slice ao la ca,iV a1.2.2],.agg #[.bool b2.1,.slice do_ ld cd,iV b2.2.2]] w' fun ev w''=>∃vo vl vc,ev= .returned (.agg #[.bool q1.1,.slice vo vl vc,iV q1.2.2])∧vl=(digits q1.2.1).length∧aq w'' (.slice vo vl vc) q1.2.1∧Below w'.heap.size w' w''):=fun w' hb=>(hq1 _ _ w' (NA w' hb).1 (NA w' hb).2.2.2).mono (fun ev w'' h=>by obtain⟨x,h1,⟨vo,vl,vc,rfl,h2,h3⟩,h4⟩:=h;exact⟨vo,vl,vc,h1,h2,h3,h4⟩)
 have Q2:Hid (∀w',Below w.heap.size w w'→ax 122 #[.agg #[.bool a2.1,.slice bo lb cb,iV a2.2.2],.agg #[.bool b1.1,.slice co lc cc,iV b1.2.2]] w' fun ev w''=>∃vo vl vc,ev= .returned (.agg #[.bool q2.1,.slice vo vl vc,iV q2.2.2])∧vl=(digits q2.2.1).length∧aq w'' (.slice vo vl vc) q2.2.1∧Below w'.heap.size w' w''):=fun w' hb=>(hq2 _ _ w' (NA w' hb).2.1 (NA w' hb).2.2.1).mono (fun ev w'' h=>by obtain⟨x,h1,⟨vo,vl,vc,rfl,h2,h3⟩,h4⟩:=h;exact⟨vo,vl,vc,h1,h2,h3,h4⟩)
 have Q3:Hid (∀w',Below w.heap.size w w'→ax 122 #[.agg #[.bool a2.1,.slice bo lb cb,iV a2.2.2],.agg #[.bool b2.1,.slice do_ ld cd,iV b2.2.2]] w' fun ev w''=>∃vo vl vc,ev= .returned (.agg #[.bool q3.1,.slice vo vl vc,iV q3.2.2])∧vl=(digits q3.2.1).length∧aq w'' (.slice vo vl vc) q3.2.1∧Below w'.heap.size w' w''):=fun w' hb=>(hq3 _ _ w' (NA w' hb).2.1 (NA w' hb).2.2.2).mono (fun ev w'' h=>by obtain⟨x,h1,⟨vo,vl,vc,rfl,h2,h3⟩,h4⟩:=h;exact⟨vo,vl,vc,h1,h2,h3,h4⟩)
 have HSP:Hid (∀(g:Nat) (W:World) (o0 o1 o2 o3:Option Addr) (l0 l1 l2 l3 c0 c1 c2 c3:Nat),W.heap[g]?=some (.cells #[.bool q0.1,.slice o0 l0 c0,iV q0.2.2,.bool q1.1,.slice o1 l1 c1,iV q1.2.2,.bool q2.1,.slice o2 l2 c2,iV q2.2.2,.bool q3.1,.slice o3 l3 c3,iV q3.2.2] 92 (0,0))→l0=(digits q0.2.1).length→l1=(digits q1.2.1).length→l2=(digits q2.2.1).length→l3=(digits q3.2.1).length→aq W (.slice o0 l0 c0) q0.2.1→aq W (.slice o1 l1 c1) q1.2.1→aq W (.slice o2 l2 c2) q2.2.1→aq W (.slice o3 l3 c3) q3.2.1→aw 63 #[.slice (some ⟨g,0,none⟩) 4 4] W (.tuple #[gU r.1 r.2.1,iV (r.2.2:Int)])):=by
  intro g W o0 o1 o2 o3 l0 l1 l2 l3 c0 c1 c2 c3 hg e0 e1 e2 e3 n0 n1 n2 n3;rw[hr];exact wA g _ _ _ _ W (zm hg e0 e1 e2 e3 n0 n1 n2 n3 s0 s1 s2 s3)
 clear NA hz hq0 hq1 hq2 hq3 s0 s1 s2 s3 hr hla hlb hlc hld hna hnb hnc hnd;obtain⟨r1,r2,r3⟩:=r;have HNM:=hid (fun(w:World)=>j5 r1 r2 r3 ⟨#[47]⟩ w);simp only at HSP;go_enter Tryz.func68,Tryz.ntmps68;go_wp2_with fail
 have m0:Hid (DSt w (((w.alloc (.cells #[.bool a1.1,.slice ao la ca,iV a1.2.2,.bool a2.1,.slice bo lb cb,iV a2.2.2] 98)).alloc (.cells #[.bool b1.1,.slice co lc cc,iV b1.2.2,.bool b2.1,.slice do_ ld cd,iV b2.2.2] 98)).alloc (.cells #[uV 0,uV 0] 28)) (w.heap.size+1+1) w.heap.size (w.heap.size+1) (w.heap.size+1+1+1) #[.bool a1.1,.slice ao la ca,iV a1.2.2,.bool a2.1,.slice bo lb cb,iV a2.2.2] #[.bool b1.1,.slice co lc cc,iV b1.2.2,.bool b2.1,.slice do_ ld cd,iV b2.2.2]):=by
  have B0:=ai (ai (af w (.cells #[.bool a1.1,.slice ao la ca,iV a1.2.2,.bool a2.1,.slice bo lb cb,iV a2.2.2] 98)) (.cells #[.bool b1.1,.slice co lc cc,iV b1.2.2,.bool b2.1,.slice do_ ld cd,iV b2.2.2] 98)) (.cells #[uV 0,uV 0] 28);have B1:=ai (af (w.alloc (.cells #[.bool a1.1,.slice ao la ca,iV a1.2.2,.bool a2.1,.slice bo lb cb,iV a2.2.2] 98)) (.cells #[.bool b1.1,.slice co lc cc,iV b1.2.2,.bool b2.1,.slice do_ ld cd,iV b2.2.2] 98)) (.cells #[uV 0,uV 0] 28);have B2:=af ((w.alloc (.cells #[.bool a1.1,.slice ao la ca,iV a1.2.2,.bool a2.1,.slice bo lb cb,iV a2.2.2] 98)).alloc (.cells #[.bool b1.1,.slice co lc cc,iV b1.2.2,.bool b2.1,.slice do_ ld cd,iV b2.2.2] 98)) (.cells #[uV 0,uV 0] 28);simp only[World.size_alloc] at B1 B2;exact⟨B0,B1,B2,(aJ.alloc (by simp) _).alloc (by simp;omega) _,by omega,by omega,by omega,by simp,by omega⟩
 generalize(((w.alloc (.cells #[.bool a1.1,.slice ao la ca,iV a1.2.2,.bool a2.1,.slice bo lb cb,iV a2.2.2] 98)).alloc (.cells #[.bool b1.1,.slice co lc cc,iV b1.2.2,.bool b2.1,.slice do_ ld cd,iV b2.2.2] 98)).alloc (.cells #[uV 0,uV 0] 28))=W2 at*;refine (HH.out _ m0.out.hb).mono ?_;rintro ev w1 ⟨rfl,hb1⟩;have m1:=hid (m0.out.below hb1);clear hb1 m0 HH;go_wp2_with fail
 go_cut [8,9] (fun s8 s9 wc=>∃g,s8= .pointer (some ⟨g,0,none⟩)∧s9=iV (r3:Int)∧Fin w wc (w.heap.size+1+1) g (nV r1) (nV r2))
 case first=>
  have iN:=hid m1.out.drew
  go_region_held3 (fun W=>W.cell? ⟨w.heap.size,0,none⟩=some (.bool a1.1)∧W.cell? ⟨w.heap.size,1,none⟩=some (.slice ao la ca)∧W.cell? ⟨w.heap.size,2,none⟩=some (.int .i64 a1.2.2)∧W.cell? ⟨w.heap.size,3,none⟩=some (.bool a2.1)∧W.cell? ⟨w.heap.size,4,none⟩=some (.slice bo lb cb)∧W.cell? ⟨w.heap.size,5,none⟩=some (.int .i64 a2.2.2)∧W.cell? ⟨w.heap.size+1,0,none⟩=some (.bool b1.1)∧W.cell? ⟨w.heap.size+1,1,none⟩=some (.slice co lc cc)∧W.cell? ⟨w.heap.size+1,2,none⟩=some (.int .i64 b1.2.2)∧W.cell? ⟨w.heap.size+1,3,none⟩=some (.bool b2.1)∧W.cell? ⟨w.heap.size+1,4,none⟩=some (.slice do_ ld cd)∧W.cell? ⟨w.heap.size+1,5,none⟩=some (.int .i64 b2.2.2)) (first|with_reducible exact iN.out.cells|with_reducible exact(m1.out.alloc _).drew.cells|with_reducible exact(iN.out.alloc _).cells|with_reducible exact((iN.out.alloc _).alloc _).cells|with_reducible exact(iN.out.set2 zf.out _ _).cells)
   (first
     |(go_at_call 122;with_reducible (refine (Q0.out _ ?_).mono ?_);(with_reducible exact iN.out.hb);rintro e v0 ⟨o0,l0,c0,rfl,hl,hn,hbk⟩
       have E0:=hid hl;have N0:=hid hn;have iN:=hid (iN.out.below hbk);clear hl hn hbk)
     |(go_at_call 122;with_reducible (refine (Q0.out _ ?_).mono ?_);(with_reducible exact(m1.out.alloc _).drew.hb);rintro e v0 ⟨o0,l0,c0,rfl,hl,hn,hbk⟩
       have E0:=hid hl;have N0:=hid hn;have zf:=hid ((bD.new m1.out.sz).drew.below hbk);have iN:=hid ((m1.out.alloc _).drew.below hbk);clear hl hn hbk)
     |(go_at_call 122;with_reducible (refine (Q1.out _ ?_).mono ?_);(with_reducible exact iN.out.hb);rintro e v1 ⟨o1,l1,c1,rfl,hl,hn,hbk⟩
       have E1:=hid hl;have N1:=hid hn;have N0:=hid (N0.out.below hbk ae)
       try(have zf:Hid (bD (w.heap.size+1+1+1) v1 _):=zf.out.below hbk)
       have iN:=hid (iN.out.below hbk);clear hl hn hbk)
     |(go_at_call 122;with_reducible (refine (Q1.out _ ?_).mono ?_);(with_reducible exact(iN.out.alloc _).hb);rintro e v1 ⟨o1,l1,c1,rfl,hl,hn,hbk⟩
       have E1:=hid hl;have N1:=hid hn;have N0:Hid (aq v1 (.slice o0 l0 c0) _):=(N0.out.below aJ ae).below hbk ae;have zf:=hid ((bD.new iN.out.sz).below hbk);have iN:=hid ((iN.out.alloc _).below hbk);clear hl hn hbk)
     |(go_at_call 122;with_reducible (refine (Q2.out _ ?_).mono ?_);(with_reducible exact iN.out.hb);rintro e v2 ⟨o2,l2,c2,rfl,hl,hn,hbk⟩
       have E2:=hid hl;have N2:=hid hn;have N0:=hid (N0.out.below hbk ae);have N1:=hid (N1.out.below hbk ae)
       try(have zf:Hid (bD (w.heap.size+1+1+1) v2 _):=zf.out.below hbk)
       have iN:=hid (iN.out.below hbk);clear hl hn hbk)
     |(go_at_call 122;with_reducible (refine (Q2.out _ ?_).mono ?_);(with_reducible exact(iN.out.alloc _).hb);rintro e v2 ⟨o2,l2,c2,rfl,hl,hn,hbk⟩
       have E2:=hid hl;have N2:=hid hn;have N0:Hid (aq v2 (.slice o0 l0 c0) _):=(N0.out.below aJ ae).below hbk ae;have N1:Hid (aq v2 (.slice o1 l1 c1) _):=(N1.out.below aJ ae).below hbk ae;have zf:=hid ((bD.new iN.out.sz).below hbk);have iN:=hid ((iN.out.alloc _).below hbk);clear hl hn hbk)
     |(go_at_call 122;with_reducible (refine (Q3.out _ ?_).mono ?_);(with_reducible exact iN.out.hb);rintro e v3 ⟨o3,l3,c3,rfl,hl,hn,hbk⟩
       have E3:=hid hl;have N3:=hid hn;have N0:=hid (N0.out.below hbk ae);have N1:=hid (N1.out.below hbk ae);have N2:=hid (N2.out.below hbk ae)
       try(have zf:Hid (bD (w.heap.size+1+1+1) v3 _):=zf.out.below hbk)
       have iN:=hid (iN.out.below hbk);clear hl hn hbk)
     |(go_at_call 122;with_reducible (refine (Q3.out _ ?_).mono ?_);(with_reducible exact(iN.out.alloc _).hb);rintro e v3 ⟨o3,l3,c3,rfl,hl,hn,hbk⟩
       have E3:=hid hl;have N3:=hid hn;have N0:Hid (aq v3 (.slice o0 l0 c0) _):=(N0.out.below aJ ae).below hbk ae;have N1:Hid (aq v3 (.slice o1 l1 c1) _):=(N1.out.below aJ ae).below hbk ae;have N2:Hid (aq v3 (.slice o2 l2 c2) _):=(N2.out.below aJ ae).below hbk ae;have zf:=hid ((bD.new iN.out.sz).below hbk);have iN:=hid ((iN.out.alloc _).below hbk);clear hl hn hbk)
     |(go_at_call 63;refine (HSP.out _ _ o0 o1 o2 o3 l0 l1 l2 l3 c0 c1 c2 c3 ?_ E0.out E1.out E2.out E3.out ?_ ?_ ?_ ?_).mono ?_
       ·exact af v3 _
       ·exact N0.out.below ((Below.refl _ v3).alloc ae _) ae
       ·exact N1.out.below ((Below.refl _ v3).alloc ae _) ae
       ·exact N2.out.below ((Below.refl _ v3).alloc ae _) ae
       ·exact N3.out.below ((Below.refl _ v3).alloc ae _) ae
       rintro e v4 ⟨rfl,hbk⟩
       try(have zf:Hid (bD (w.heap.size+1+1+1) v4 _):=(zf.out.alloc _).below hbk;obtain⟨zc0,zc1,zc2,zc3⟩:=aj zf.out.1)
       have iN:=hid ((iN.out.alloc _).below hbk);clear hbk)
     |(go_at_call 63;refine (HSP.out _ _ o0 o1 o2 o3 l0 l1 l2 l3 c0 c1 c2 c3 ?_ E0.out E1.out E2.out E3.out ?_ ?_ ?_ ?_).mono ?_
       ·exact ai (af v3 _) _
       ·exact N0.out.below (((Below.refl _ v3).alloc ae _).alloc (by simp) _) ae
       ·exact N1.out.below (((Below.refl _ v3).alloc ae _).alloc (by simp) _) ae
       ·exact N2.out.below (((Below.refl _ v3).alloc ae _).alloc (by simp) _) ae
       ·exact N3.out.below (((Below.refl _ v3).alloc ae _).alloc (by simp) _) ae
       rintro e v4 ⟨rfl,hbk⟩
       have zf:Hid (bD (w.heap.size+1+1+1) v4 (v3.heap.size+1)):=by
        have hz:=(bD.new (iN.out.alloc (.cells #[.bool q0.1,.slice o0 l0 c0,iV q0.2.2,.bool q1.1,.slice o1 l1 c1,iV q1.2.2,.bool q2.1,.slice o2 l2 c2,iV q2.2.2,.bool q3.1,.slice o3 l3 c3,iV q3.2.2] 92)).sz).below hbk;simp only[World.size_alloc] at hz;exact hz
       obtain⟨zc0,zc1,zc2,zc3⟩:=aj zf.out.1;have iN:=hid (((iN.out.alloc _).alloc _).below hbk);clear hbk)
     |(go_at_call 63;refine (HSP.out _ _ o0 o1 o2 o3 l0 l1 l2 l3 c0 c1 c2 c3 ?_ E0.out E1.out E2.out E3.out ?_ ?_ ?_ ?_).mono ?_
       ·(have hgx:=af (v3.alloc (.cells #[uV 0,uV 0] 28)) (.cells #[.bool q0.1,.slice o0 l0 c0,iV q0.2.2,.bool q1.1,.slice o1 l1 c1,iV q1.2.2,.bool q2.1,.slice o2 l2 c2,iV q2.2.2,.bool q3.1,.slice o3 l3 c3,iV q3.2.2] 92);simp only[World.size_alloc] at hgx;exact hgx)
       ·exact N0.out.below (((Below.refl _ v3).alloc ae _).alloc (by simp) _) ae
       ·exact N1.out.below (((Below.refl _ v3).alloc ae _).alloc (by simp) _) ae
       ·exact N2.out.below (((Below.refl _ v3).alloc ae _).alloc (by simp) _) ae
       ·exact N3.out.below (((Below.refl _ v3).alloc ae _).alloc (by simp) _) ae
       rintro e v4 ⟨rfl,hbk⟩;have zf:=hid (((bD.new iN.out.sz).alloc _).below hbk);obtain⟨zc0,zc1,zc2,zc3⟩:=aj zf.out.1;have iN:=hid (((iN.out.alloc _).alloc _).below hbk);clear hbk))
  all_goals(go_wp2_with fail;go_meet;refine⟨_,rfl,rfl,?_⟩)
  all_goals first|with_reducible exact iN.out.finSet zf.out _ _|with_reducible exact iN.out.finNew _ _
 case rest=>
  obtain⟨g,rfl,rfl,F⟩:=hcut;have HF:=hid F;obtain⟨p0,p1,-,-⟩:=aj F.c;clear F;go_wp2_with fail;refine (HNM.out _).mono ?_;rintro ev w9 ⟨rfl,hb9⟩;have HK:=hid (aa HF.out.k2 hb9);have HB:=hid (HF.out.hb.trans (hb9.mono HF.out.hb.size));clear hb9 p0 p1;obtain⟨q0,q1,q2,q3⟩:=aj HK.out;go_wp2_with fail;obtain⟨p0,p1,-,-⟩:=aj (aA (a:=uV ((aO (r1,r2,r3) ⟨#[47]⟩).1:Int)) (b:=uV ((aO (r1,r2,r3) ⟨#[47]⟩).2.1:Int)) HK.out);refine bodyPost_ret (v:= .tuple #[.agg #[uV ((aO (r1,r2,r3) ⟨#[47]⟩).1:Int),uV ((aO (r1,r2,r3) ⟨#[47]⟩).2.1:Int)],iV ((aO (r1,r2,r3) ⟨#[47]⟩).2.2.1:Int),.string (aO (r1,r2,r3) ⟨#[47]⟩).2.2.2]) (by simp[results,Tryz.results68,go_sem,p0,p1]) rfl ?_;exact⟨rfl,(HB.out.setCell (by exact HF.out.l2) _).setCell (by exact HF.out.l2) _⟩
structure ESt (w u W:World) (g2 ga gb gc gd:Nat) (a b c d:Array Value):Prop where
 k0:W.heap[ga]?=some (.cells a 98 (0,0))
 k1:W.heap[gb]?=some (.cells b 98 (0,0))
 k2:W.heap[g2]?=some (.cells #[uV 0,uV 0] 28 (0,0))
 kc:W.heap[gc]?=some (.cells c 92 (0,0))
 kd:W.heap[gd]?=some (.cells d 92 (0,0))
 hb:Below w.heap.size w W
 hu:Below u.heap.size u W
 h0:ga<u.heap.size
 h1:gb<u.heap.size
 h2:g2<u.heap.size
 hc:gc<u.heap.size
 hd:gd<u.heap.size
 l2:w.heap.size≤g2
theorem ESt.sz {w u W:World} {g2 ga gb gc gd:Nat} {a b c d:Array Value} (m:ESt w u W g2 ga gb gc gd a b c d):u.heap.size≤W.heap.size:=m.hu.size
theorem ESt.below {w u W W':World} {g2 ga gb gc gd:Nat} {a b c d:Array Value} (m:ESt w u W g2 ga gb gc gd a b c d) (hb:Below W.heap.size W W'):ESt w u W' g2 ga gb gc gd a b c d:=
 ⟨aa m.k0 hb,aa m.k1 hb,aa m.k2 hb,aa m.kc hb,aa m.kd hb,m.hb.trans (hb.mono m.hb.size),m.hu.trans (hb.mono m.hu.size),m.h0,m.h1,m.h2,m.hc,m.hd,m.l2⟩
theorem ESt.alloc {w u W:World} {g2 ga gb gc gd:Nat} {a b c d:Array Value} (m:ESt w u W g2 ga gb gc gd a b c d) (o:Obj):ESt w u (W.alloc o) g2 ga gb gc gd a b c d:=m.below (aK.alloc ae o)
theorem ESt.drew {w u W:World} {g2 ga gb gc gd:Nat} {a b c d:Array Value} (m:ESt w u W g2 ga gb gc gd a b c d):ESt w u W.drew g2 ga gb gc gd a b c d:=⟨m.k0,m.k1,m.k2,m.kc,m.kd,m.hb.drew,m.hu.drew,m.h0,m.h1,m.h2,m.hc,m.hd,m.l2⟩
theorem ESt.set2 {w u W:World} {g2 ga gb gc gd g:Nat} {a b c d:Array Value} (m:ESt w u W g2 ga gb gc gd a b c d) (z:bD u.heap.size W g) (x y:Value):ESt w u ((W.setCell ⟨g,0,none⟩ x).setCell ⟨g,1,none⟩ y) g2 ga gb gc gd a b c d:=by
 have hz:=z.2;have e0:ga≠g:=by have:=m.h0;omega
 have e1:gb≠g:=by have:=m.h1;omega
 have e2:g2≠g:=by have:=m.h2;omega
 have e4:gc≠g:=by have:=m.hc;omega
 have e5:gd≠g:=by have:=m.hd;omega
 have e3:w.heap.size≤g:=by have:=m.h2;have:=m.l2;omega
 exact⟨aG (aG m.k0 e0) e0,aG (aG m.k1 e1) e1,aG (aG m.k2 e2) e2,aG (aG m.kc e4) e4,aG (aG m.kd e5) e5,(m.hb.setCell (by exact e3) _).setCell (by exact e3) _,(m.hu.setCell (by exact hz) _).setCell (by exact hz) _,m.h0,m.h1,m.h2,m.hc,m.hd,m.l2⟩
theorem ESt.cells {w u W:World} {g2 ga gb gc gd:Nat} {p0 p1 p2 p3 p4 p5 q0 q1 q2 q3 q4 q5:Value} {c d:Array Value} (m:ESt w u W g2 ga gb gc gd #[p0,p1,p2,p3,p4,p5] #[q0,q1,q2,q3,q4,q5] c d):
  W.cell? ⟨ga,0,none⟩=some p0∧W.cell? ⟨ga,1,none⟩=some p1∧W.cell? ⟨ga,2,none⟩=some p2∧W.cell? ⟨ga,3,none⟩=some p3∧W.cell? ⟨ga,4,none⟩=some p4∧W.cell? ⟨ga,5,none⟩=some p5∧W.cell? ⟨gb,0,none⟩=some q0∧W.cell? ⟨gb,1,none⟩=some q1∧W.cell? ⟨gb,2,none⟩=some q2∧W.cell? ⟨gb,3,none⟩=some q3∧W.cell? ⟨gb,4,none⟩=some q4∧W.cell? ⟨gb,5,none⟩=some q5:=by
 obtain⟨x0,x1,x2,x3,x4,x5,-,-,-,-,-,-⟩:=bH m.k0;obtain⟨y0,y1,y2,y3,y4,y5,-,-,-,-,-,-⟩:=bH m.k1;exact⟨x0,x1,x2,x3,x4,x5,y0,y1,y2,y3,y4,y5⟩
theorem ESt.cells4 {w u W:World} {g2 ga gb gc gd:Nat} {p0 p1 p2 p3 p4 p5 q0 q1 q2 r0 r1 r2:Value} {b:Array Value} (m:ESt w u W g2 ga gb gc gd #[p0,p1,p2,p3,p4,p5] b #[q0,q1,q2] #[r0,r1,r2]):
  W.cell? ⟨ga,0,none⟩=some p0∧W.cell? ⟨ga,1,none⟩=some p1∧W.cell? ⟨ga,2,none⟩=some p2∧W.cell? ⟨ga,3,none⟩=some p3∧W.cell? ⟨ga,4,none⟩=some p4∧W.cell? ⟨ga,5,none⟩=some p5∧W.cell? ⟨gc,0,none⟩=some q0∧W.cell? ⟨gc,1,none⟩=some q1∧W.cell? ⟨gc,2,none⟩=some q2∧W.cell? ⟨gd,0,none⟩=some r0∧W.cell? ⟨gd,1,none⟩=some r1∧W.cell? ⟨gd,2,none⟩=some r2:=by
 obtain⟨x0,x1,x2,x3,x4,x5,-,-,-,-,-,-⟩:=bH m.k0;obtain⟨y0,y1,y2,-,-,-⟩:=aB m.kc;obtain⟨z0,z1,z2,-,-,-⟩:=aB m.kd;exact⟨x0,x1,x2,x3,x4,x5,y0,y1,y2,z0,z1,z2⟩
theorem ESt.finSet {w u W:World} {g2 ga gb gc gd g:Nat} {a b c d:Array Value} (m:ESt w u W g2 ga gb gc gd a b c d) (z:bD u.heap.size W g) (x y:Value):Fin w ((W.setCell ⟨g,0,none⟩ x).setCell ⟨g,1,none⟩ y) g2 g x y:=
 ⟨aA z.1,(m.set2 z x y).k2,(m.set2 z x y).hb,m.l2⟩
theorem ESt.finNew {w u W:World} {g2 ga gb gc gd:Nat} {a b c d:Array Value} (m:ESt w u W g2 ga gb gc gd a b c d) (x y:Value):Fin w (W.alloc (.cells #[x,y] 28)) g2 W.heap.size x y:=
 ⟨af W _,(m.alloc _).k2,(m.alloc _).hb,m.l2⟩
def dF (args:Array Value) (x y:ap):Prop:=∀W:World,ax 60 args W fun e w'=>∃ao la ca bo lb cb,e= .returned (.agg #[.bool x.1,.slice ao la ca,iV x.2.2,.bool y.1,.slice bo lb cb,iV y.2.2])∧la=(digits x.2.1).length∧lb=(digits y.2.1).length∧aq w' (.slice ao la ca) x.2.1∧aq w' (.slice bo lb cb) y.2.1∧Below W.heap.size W w'
theorem du (lo hi:Nat) (h1:lo<18446744073709551616) (h2:hi<18446744073709551616):dF #[gU lo hi] (plT (makeN lo hi).1) (plT (makeN lo hi).2.1):=by
 intro W;refine(yr lo hi W h1 h2).mono ?_;rintro e w' h;obtain⟨v,rfl,⟨ao,la,ca,bo,lb,cb,rfl,hla,hlb,hna,hnb⟩,hb⟩:=h;exact⟨ao,la,ca,bo,lb,cb,rfl,hla,hlb,hna,hnb,hb⟩
theorem eM (x:ap) (W:World) (o:Option Addr) (l c:Nat) (hl:l=(digits x.2.1).length) (hn:aq W (.slice o l c) x.2.1):
  ax 61 #[.agg #[.bool x.1,.slice o l c,iV x.2.2]] W fun e w'=>∃o' l' c',e= .returned (.agg #[.bool (aQ x.1 x.2.1),.slice o' l' c',iV x.2.2])∧l'=(digits x.2.1).length∧aq w' (.slice o' l' c') x.2.1∧Below W.heap.size W w':=by
 refine(qa _ x.1 x.2.1 x.2.2 W ⟨o,l,c,rfl,hl,hn⟩).mono ?_;rintro e w' ⟨x',rfl,⟨o',l',c',rfl,h2,h3⟩,h4⟩;exact⟨o',l',c',rfl,h2,h3,h4⟩
end
end Go.Proofs.YtonhpkigoplmaaaGreatDoor
