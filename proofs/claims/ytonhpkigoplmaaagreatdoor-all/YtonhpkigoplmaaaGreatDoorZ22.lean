import Derived.Test.YtonhpkigoplmaaaGreatDoorZ20
import Derived.Deep.RegionLaw
set_option maxRecDepth 100000
set_option maxHeartbeats 40000000
namespace Go.Proofs.YtonhpkigoplmaaaGreatDoor
section
open Go.RowKit
def bvs:List (Nat×Nat)→List Value
 |[]=>[]
 |p::l=>nV p.1::nV p.2::bvs l
theorem jz:∀a b:List (Nat×Nat),bvs (a++b)=bvs a++bvs b
 |[],b=>rfl
 |p::a,b=>by rw[List.cons_append];show _::_::bvs (a++b)=_;rw[jz a b];rfl
theorem zD:∀a:List (Nat×Nat),(bvs a).length=a.length*2
 |[]=>rfl
 |p::a=>by show(bvs a).length+1+1=(a.length+1)*2;rw[zD a];omega
theorem zi:∀a:List (Nat×Nat),∀u∈bvs a,u.oneCell'=true
 |[],u,hu=>by cases hu
 |p::a,u,hu=>by
  rcases List.mem_cons.1 hu with rfl|hu
  ·rfl
  ·rcases List.mem_cons.1 hu with rfl|hu
   ·rfl
   ·exact zi a u hu
theorem pI:(Tryz.prog.info? 28).map (fun i=>(i.zero,i.size,i.bytes))=some (some (.agg #[uV 0,uV 0]),2,16):=by kernel_rfl
theorem aH {W W':World} {B B' T k:Nat} {v:Value} {n:Nat} {xs:List Value} (h:W.ownsRow B T k v n xs) (hb:Below W.heap.size W W') (hB:B'≤B):W'.ownsRow B' T k v n xs:=
 ⟨h.1,h.2.imp id (fun⟨g,cap,cur,e,hg,hh,r⟩=>⟨g,cap,cur,e,Nat.le_trans hB hg,aa hh hb,r⟩)⟩
theorem xS (po:Option Addr) (n pc:Nat) (dep:Int) (xl xh v1 v2 v3:Nat) (vs:ByteArray) (a1 a2 c1 c2 q r:ap) (z ok l1 l2:Bool) (m al ah:Nat) (w:World)
  (hM:dF #[gU xl xh] a1 a2)
  (hE:∀W,Below w.heap.size w W→aw 36 #[.slice po n pc,gU xl xh] W (.tuple #[gU v1 v2,iV (v3:Int),.string vs]))
  (hV:dF #[gU v1 v2] c1 c2)
  (hz:∀(W:World) (v:Value),IvV W v c1 c2→aw 121 #[v] W (.bool z))
  (hk:v3≠0∨z=true)
  (hS:∀(W:World) (ao bo:Option Addr) (la ca lb cb:Nat),la=(digits a1.2.1).length→aq W (.slice ao la ca) a1.2.1→lb=(digits a2.2.1).length→aq W (.slice bo lb cb) a2.2.1→ax 65 #[.agg #[.bool a1.1,.slice ao la ca,iV a1.2.2],.agg #[.bool a2.1,.slice bo lb cb,iV a2.2.2]] W fun ev w''=>∃vo vl vc,ev= .returned (.agg #[.bool q.1,.slice vo vl vc,iV q.2.2])∧vl=(digits q.2.1).length∧aq w'' (.slice vo vl vc) q.2.1∧Below W.heap.size W w'')
  (hq1:-10000≤q.2.2) (hq2:q.2.2≤10000)
  (hR:∀(W:World) (vo:Option Addr) (vl vc:Nat),vl=(digits q.2.1).length→aq W (.slice vo vl vc) q.2.1→aw 115 #[.agg #[.bool q.1,.slice vo vl vc,iV (q.2.2-1)],iV 0] W (.tuple #[nV m,.bool ok]))
  (hP:∀W:World,ax 57 #[nV m] W fun e w'=>∃ro rl rc b,e= .returned (.tuple #[.agg #[.bool r.1,.slice ro rl rc,iV r.2.2],.bool b])∧rl=(digits r.2.1).length∧aq w' (.slice ro rl rc) r.2.1∧Below W.heap.size W w')
  (hL1:∀(W:World) (u v:Value),aM W u a1.1 a1.2.1 a1.2.2→aM W v r.1 r.2.1 r.2.2→aw 58 #[u,v] W (.bool l1))
  (hL2:∀(W:World) (u v:Value),aM W u r.1 r.2.1 r.2.2→aM W v a2.1 a2.2.1 a2.2.2→aw 58 #[u,v] W (.bool l2))
  (hR1:∀(W:World) (u:Value),aM W u a1.1 a1.2.1 a1.2.2→aw 115 #[u,iV 0] W (.tuple #[nV al,.bool true]))
  (hR2:∀(W:World) (u:Value),aM W u a2.1 a2.2.1 a2.2.2→aw 115 #[u,iV 0] W (.tuple #[nV ah,.bool true]))
  (hst:ok=true∧l1=true∧l2=true) (hd1:1≤dep) (hd2:dep≤8) (ls rs:List (Nat×Nat)) (hlen:ls.length+rs.length≤1000)
  (hA:∀W,Below w.heap.size w W→ax 82 #[.slice po n pc,gU al m,iV (dep-1)] W fun e w'=>∃v,e= .returned v∧w'.ownsRow W.heap.size 28 2 v ls.length (bvs ls)∧(ls=[]↔v= .slice none 0 0)∧Below W.heap.size W w')
  (hB:∀W,Below w.heap.size w W→ax 82 #[.slice po n pc,gU m ah,iV (dep-1)] W fun e w'=>∃v,e= .returned v∧w'.ownsRow W.heap.size 28 2 v rs.length (bvs rs)∧(rs=[]↔v= .slice none 0 0)∧Below W.heap.size W w'):
  ax 82 #[.slice po n pc,gU xl xh,iV dep] w fun e w'=>∃v,e= .returned v∧w'.ownsRow w.heap.size 28 2 v (ls++rs).length (bvs (ls++rs))∧((ls++rs)=[]↔v= .slice none 0 0)∧Below w.heap.size w w':=by
 have HM_:=hid hM;have HE_:=hid hE;have HV_:=hid hV;have HZ_:=hid hz;have HS_:=hid hS;have HR_:=hid hR;have HP_:=hid hP;have HL1_:=hid hL1;have HL2_:=hid hL2;have HR1_:=hid hR1;have HR2_:=hid hR2;have HST_:=hid hst;have HD1_:=hid hd1;have HD2_:=hid hd2;have HLEN_:=hid hlen;have HA_:=hid hA;have HB_:=hid hB;have HK_:Hid (v3≠0∨z=true):=hk;have qb1:-9223372036854775808≤q.2.2-1:=by omega
 have qb2:q.2.2-1<9223372036854775808:=by omega
 clear hM hE hV hz hS hR hP hL1 hL2 hR1 hR2 hst hd1 hd2 hlen hA hB hk hq1 hq2;go_enter Tryz.func82,Tryz.ntmps82;go_wp2_with fail;have B4:=af w (.cells #[nV xl,nV xh] 28);have hW:Below w.heap.size w (w.alloc (.cells #[nV xl,nV xh] 28)):=aK.alloc ae _;generalize(w.alloc (.cells #[nV xl,nV xh] 28))=W1 at*;refine (HM_.out _).mono ?_;rintro e w1 ⟨ao,la,ca,bo,lb,cb,rfl,hla,hlb,hna,hnb,hb1⟩;have M1:Hid (QSt w (w1.alloc (.cells #[.bool a1.1,.slice ao la ca,iV a1.2.2,.bool a2.1,.slice bo lb cb,iV a2.2.2] 98)) w1.heap.size #[nV xl,nV xh] #[.bool a1.1,.slice ao la ca,iV a1.2.2,.bool a2.1,.slice bo lb cb,iV a2.2.2]):=⟨ai (aa B4 hb1) _,af w1 _,(hW.trans (hb1.mono hW.size)).alloc (Nat.le_trans hW.size hb1.size) _⟩;have LA:Hid (la=_):=hla;have LB:Hid (lb=_):=hlb;have NA:Hid (aq (w1.alloc (.cells #[.bool a1.1,.slice ao la ca,iV a1.2.2,.bool a2.1,.slice bo lb cb,iV a2.2.2] 98)) (.slice ao la ca) _):=hna.below aJ ae;have NB:Hid (aq (w1.alloc (.cells #[.bool a1.1,.slice ao la ca,iV a1.2.2,.bool a2.1,.slice bo lb cb,iV a2.2.2] 98)) (.slice bo lb cb) _):=hnb.below aJ ae;obtain⟨x0,x1,-,-⟩:=aj (aa B4 hb1);have lx:=ag (aa B4 hb1);clear B4 hW hb1 hla hlb hna hnb HM_;go_wp2_with fail;clear x0 x1 lx;generalize w1.heap.size=g7 at*;generalize(w1.alloc (.cells #[.bool a1.1,.slice ao la ca,iV a1.2.2,.bool a2.1,.slice bo lb cb,iV a2.2.2] 98))=W2 at*;refine (HE_.out _ M1.out.hb).mono ?_;rintro e w2 ⟨rfl,hb2⟩;have hs2:Below W2.heap.size W2 (w2.alloc (.cells #[nV v1,nV v2] 28)):=hb2.alloc hb2.size _;have M2:Hid (QSt w (w2.alloc (.cells #[nV v1,nV v2] 28)) g7 #[nV xl,nV xh] #[.bool a1.1,.slice ao la ca,iV a1.2.2,.bool a2.1,.slice bo lb cb,iV a2.2.2]):=M1.out.below hs2;have NA:Hid (aq (w2.alloc (.cells #[nV v1,nV v2] 28)) (.slice ao la ca) _):=NA.out.below hs2 ae;have NB:Hid (aq (w2.alloc (.cells #[nV v1,nV v2] 28)) (.slice bo lb cb) _):=NB.out.below hs2 ae;clear hb2 hs2 M1 HE_;go_wp2_with fail;generalize(w2.alloc (.cells #[nV v1,nV v2] 28))=W3 at*;refine (HV_.out _).mono ?_;rintro e w3 ⟨co,lc,cc,do_,ld,cd,rfl,hlc,hld,hnc,hnd,hb3⟩;have hs3:Below W3.heap.size W3 (w3.alloc (.cells #[.bool c1.1,.slice co lc cc,iV c1.2.2,.bool c2.1,.slice do_ ld cd,iV c2.2.2] 98)):=hb3.alloc hb3.size _;have M3:Hid (QSt w (w3.alloc (.cells #[.bool c1.1,.slice co lc cc,iV c1.2.2,.bool c2.1,.slice do_ ld cd,iV c2.2.2] 98)) g7 #[nV xl,nV xh] #[.bool a1.1,.slice ao la ca,iV a1.2.2,.bool a2.1,.slice bo lb cb,iV a2.2.2]):=M2.out.below hs3;have NA:Hid (aq (w3.alloc (.cells #[.bool c1.1,.slice co lc cc,iV c1.2.2,.bool c2.1,.slice do_ ld cd,iV c2.2.2] 98)) (.slice ao la ca) _):=NA.out.below hs3 ae;have NB:Hid (aq (w3.alloc (.cells #[.bool c1.1,.slice co lc cc,iV c1.2.2,.bool c2.1,.slice do_ ld cd,iV c2.2.2] 98)) (.slice bo lb cb) _):=NB.out.below hs3 ae;have IV:Hid (IvV (w3.alloc (.cells #[.bool c1.1,.slice co lc cc,iV c1.2.2,.bool c2.1,.slice do_ ld cd,iV c2.2.2] 98)) (.agg #[.bool c1.1,.slice co lc cc,iV c1.2.2,.bool c2.1,.slice do_ ld cd,iV c2.2.2]) c1 c2):=⟨co,lc,cc,do_,ld,cd,rfl,hlc,hld,hnc.below aJ ae,hnd.below aJ ae⟩;clear hb3 hs3 M2 HV_ hlc hld hnc hnd;go_wp2_with fail;generalize(w3.alloc (.cells #[.bool c1.1,.slice co lc cc,iV c1.2.2,.bool c2.1,.slice do_ ld cd,iV c2.2.2] 98))=W4 at*;refine (HZ_.out _ _ IV.out).mono ?_;rintro e w4 ⟨rfl,hb4⟩;have M4:Hid (QSt w w4 g7 #[nV xl,nV xh] #[.bool a1.1,.slice ao la ca,iV a1.2.2,.bool a2.1,.slice bo lb cb,iV a2.2.2]):=M3.out.below hb4;have NA:Hid (aq w4 (.slice ao la ca) _):=NA.out.below hb4 ae;have NB:Hid (aq w4 (.slice bo lb cb) _):=NB.out.below hb4 ae;obtain⟨y0,y1,y2,y3,y4,y5,-,-,-,-,-,-⟩:=bH M4.out.k7;clear hb4 M3 HZ_ IV
 have hkk:v3≠0∨(v3=0∧z=true):=by
  rcases HK_.out with h|h
  ·exact .inl h
  ·by_cases h0:v3=0
   ·exact .inr ⟨h0,h⟩
   ·exact .inl h0
 clear HK_;rcases hkk with hv|⟨hv,hzt⟩;have hv':¬(v3:Int)=0:=by omega
 clear hv;rotate_left;subst hv hzt;rotate_left
 all_goals
  go_wp2_with fail;refine (HS_.out _ ao bo la ca lb cb LA.out NA.out LB.out NB.out).mono ?_;rintro e w5 ⟨vo,vl,vc,rfl,hvl,hvn,hb5⟩;have hs5:Below w4.heap.size w4 (w5.alloc (.cells #[.bool q.1,.slice vo vl vc,iV (q.2.2-1)] 92)):=hb5.alloc hb5.size _;have M5:Hid (QSt w (w5.alloc (.cells #[.bool q.1,.slice vo vl vc,iV (q.2.2-1)] 92)) g7 #[nV xl,nV xh] #[.bool a1.1,.slice ao la ca,iV a1.2.2,.bool a2.1,.slice bo lb cb,iV a2.2.2]):=M4.out.below hs5;have NA:Hid (aq (w5.alloc (.cells #[.bool q.1,.slice vo vl vc,iV (q.2.2-1)] 92)) (.slice ao la ca) _):=NA.out.below hs5 ae;have NB:Hid (aq (w5.alloc (.cells #[.bool q.1,.slice vo vl vc,iV (q.2.2-1)] 92)) (.slice bo lb cb) _):=NB.out.below hs5 ae;have LV:Hid (vl=_):=hvl;have NV:Hid (aq (w5.alloc (.cells #[.bool q.1,.slice vo vl vc,iV (q.2.2-1)] 92)) (.slice vo vl vc) _):=hvn.below aJ ae;clear hvl hvn hb5 hs5 M4 HS_ y0 y1 y2 y3 y4 y5;go_wp2_with fail;generalize(w5.alloc (.cells #[.bool q.1,.slice vo vl vc,iV (q.2.2-1)] 92))=W5 at*;refine (HR_.out _ vo vl vc LV.out NV.out).mono ?_;rintro e w6 ⟨rfl,hb6⟩;have M6:Hid (QSt w w6 g7 #[nV xl,nV xh] #[.bool a1.1,.slice ao la ca,iV a1.2.2,.bool a2.1,.slice bo lb cb,iV a2.2.2]):=M5.out.below hb6;have NA:Hid (aq w6 (.slice ao la ca) _):=NA.out.below hb6 ae;have NB:Hid (aq w6 (.slice bo lb cb) _):=NB.out.below hb6 ae;clear hb6 M5 HR_ NV LV;go_wp2_with fail;refine (HP_.out _).mono ?_;rintro e w7 ⟨ro,rl,rc,bb,rfl,hrl,hrn,hb7⟩;have hs7:Below w6.heap.size w6 (w7.alloc (.cells #[.bool r.1,.slice ro rl rc,iV r.2.2] 92)):=hb7.alloc hb7.size _;have M7:Hid (QSt w (w7.alloc (.cells #[.bool r.1,.slice ro rl rc,iV r.2.2] 92)) g7 #[nV xl,nV xh] #[.bool a1.1,.slice ao la ca,iV a1.2.2,.bool a2.1,.slice bo lb cb,iV a2.2.2]):=M6.out.below hs7;have K16:Hid ((w7.alloc (.cells #[.bool r.1,.slice ro rl rc,iV r.2.2] 92)).heap[w7.heap.size]?=_):=af w7 _;have NA:Hid (aq (w7.alloc (.cells #[.bool r.1,.slice ro rl rc,iV r.2.2] 92)) (.slice ao la ca) _):=NA.out.below hs7 ae;have NB:Hid (aq (w7.alloc (.cells #[.bool r.1,.slice ro rl rc,iV r.2.2] 92)) (.slice bo lb cb) _):=NB.out.below hs7 ae;have LR:Hid (rl=_):=hrl;have NR:Hid (aq (w7.alloc (.cells #[.bool r.1,.slice ro rl rc,iV r.2.2] 92)) (.slice ro rl rc) _):=hrn.below aJ ae;obtain⟨y0,y1,y2,y3,y4,y5,-,-,-,-,-,-⟩:=bH (M6.out.below hb7).k7;have ly:=ag (M6.out.below hb7).k7;clear hrl hrn hb7 hs7 M6 HP_;go_wp2_with fail;clear y0 y1 y2 y3 y4 y5 ly;generalize hg16:w7.heap.size=g16 at*;generalize(w7.alloc (.cells #[.bool r.1,.slice ro rl rc,iV r.2.2] 92))=W7 at*;refine (HL1_.out _ _ _ ⟨_,_,_,rfl,LA.out,NA.out⟩ ⟨_,_,_,rfl,LR.out,NR.out⟩).mono ?_;rintro e w8 ⟨rfl,hb8⟩;have M8:Hid (QSt w w8 g7 #[nV xl,nV xh] #[.bool a1.1,.slice ao la ca,iV a1.2.2,.bool a2.1,.slice bo lb cb,iV a2.2.2]):=M7.out.below hb8;have NA:Hid (aq w8 (.slice ao la ca) _):=NA.out.below hb8 ae;have NB:Hid (aq w8 (.slice bo lb cb) _):=NB.out.below hb8 ae;have NR:Hid (aq w8 (.slice ro rl rc) _):=NR.out.below hb8 ae;obtain⟨y0,y1,y2,y3,y4,y5,-,-,-,-,-,-⟩:=bH M8.out.k7;obtain⟨u0,u1,u2,-,-,-⟩:=aB (aa K16.out hb8);clear hb8 M7 HL1_ K16;go_wp2_with fail;clear y0 y1 y2 y3 y4 y5 u0 u1 u2;refine (HL2_.out _ _ _ ⟨_,_,_,rfl,LR.out,NR.out⟩ ⟨_,_,_,rfl,LB.out,NB.out⟩).mono ?_;rintro e w9 ⟨rfl,hb9⟩;have M9:Hid (QSt w w9 g7 #[nV xl,nV xh] #[.bool a1.1,.slice ao la ca,iV a1.2.2,.bool a2.1,.slice bo lb cb,iV a2.2.2]):=M8.out.below hb9;have NA:Hid (aq w9 (.slice ao la ca) _):=NA.out.below hb9 ae;have NB:Hid (aq w9 (.slice bo lb cb) _):=NB.out.below hb9 ae;obtain⟨y0,y1,y2,y3,y4,y5,-,-,-,-,-,-⟩:=bH M9.out.k7;clear hb9 M8 HL2_ NR LR;go_wp2_with fail;clear y0 y1 y2 y3 y4 y5;refine (HR1_.out _ _ ⟨_,_,_,rfl,LA.out,NA.out⟩).mono ?_;rintro e w10 ⟨rfl,hb10⟩;have M10:Hid (QSt w w10 g7 #[nV xl,nV xh] #[.bool a1.1,.slice ao la ca,iV a1.2.2,.bool a2.1,.slice bo lb cb,iV a2.2.2]):=M9.out.below hb10;have NB:Hid (aq w10 (.slice bo lb cb) _):=NB.out.below hb10 ae;obtain⟨y0,y1,y2,y3,y4,y5,-,-,-,-,-,-⟩:=bH M10.out.k7;clear hb10 M9 HR1_ NA LA;go_wp2_with fail;clear y0 y1 y2 y3 y4 y5;refine (HR2_.out _ _ ⟨_,_,_,rfl,LB.out,NB.out⟩).mono ?_;rintro e w11 ⟨rfl,hb11⟩;have hF:Below w.heap.size w w11:=M10.out.hb.trans (hb11.mono M10.out.hb.size);clear hb11 M10 HR2_ NB LB;obtain⟨rfl,rfl,rfl⟩:=HST_.out;have hd1:1≤dep:=HD1_.out;have hd2:dep≤8:=HD2_.out;have hd0:¬dep=0:=by omega
  have dm1:-9223372036854775808≤dep-1:=by omega
  have dm2:dep-1<9223372036854775808:=by omega
  go_wp2_with fail;refine (HA_.out _ hF).mono ?_;rintro e w12 ⟨vL,rfl,hownL,hnilL,hb12⟩;have HF12:Hid (Below w.heap.size w w12):=hF.trans (hb12.mono hF.size);have OL:Hid (w12.ownsRow w.heap.size 28 2 vL ls.length (bvs ls)):=aH hownL aK hF.size;have NL:Hid (ls=[]↔vL= .slice none 0 0):=hnilL;clear hownL hnilL hb12 hF HA_;go_wp2_with fail;refine (HB_.out _ HF12.out).mono ?_;rintro e w13 ⟨vR,rfl,hownR,hnilR,hb13⟩;have HF13:Hid (Below w.heap.size w w13):=HF12.out.trans (hb13.mono HF12.out.size);have OL3:w13.ownsRow w.heap.size 28 2 vL ls.length (bvs ls):=aH OL.out hb13 ae;have OR:Hid (w13.ownsRow w.heap.size 28 2 vR rs.length (bvs rs)):=aH hownR aK HF12.out.size;have NR_:Hid (rs=[]↔vR= .slice none 0 0):=hnilR;clear hownR hnilR hb13 HB_ OL HF12;have HLN:=HLEN_.out;by_cases hr:rs=[]
  ·obtain rfl:=NR_.out.1 hr;subst hr;have OLL:Hid (w13.ownsRow w.heap.size 28 2 vL ls.length (bvs ls)):=OL3;rcases OL3.2 with⟨rfl,h0⟩|⟨g,cap,cur,rfl,hg,hh,hn,hcap,hs,ht⟩
   ·clear OL3 OR NR_;have H0L:Hid (ls.length=0):=h0;clear h0 NL;go_wp2_with fail
    go_ret
    rw[List.append_nil];exact⟨_,rfl,OLL.out,⟨fun _=>rfl,fun _=>List.length_eq_zero_iff.1 H0L.out⟩,HF13.out⟩
   ·have HNF:Hid (ls≠[]):=fun h=>by have:=NL.out.1 h;cases this
    have hn':(ls.length:Int)≤(cap:Int):=by omega
    clear OL3 OR NR_ hg hh hcap hs ht NL;go_wp2_with fail
    go_ret
    rw[List.append_nil];exact⟨_,rfl,OLL.out,⟨fun h=>absurd h HNF.out,fun h=>by cases h⟩,HF13.out⟩
  ·have hrl:rs.length≠0:=fun h=>hr (List.length_eq_zero_iff.1 h)
   rcases OR.out.2 with⟨_,h0⟩|⟨g,cap,cur,rfl,hg,hh,hn,hcap,hs,ht⟩
   ·exact absurd h0 hrl
   ·have CC:Hid (∀j u,(bvs rs)[j]?=some u→w13.cell? ((Addr.mk g 0 none).add j)=some u):=fun j u hj=>by
     have ea:(Addr.mk g 0 none).add j=⟨g,j,none⟩:=by
      by_cases hj:j=0
      ·subst hj;simp[Addr.add]
      ·simp[Addr.add,hj]
     rw[ea,bf hh];rw[←ht,List.getElem?_take] at hj;split at hj
     ·simpa using hj
     ·cases hj
    have HO3:Hid (w13.ownsRow w.heap.size 28 2 vL ls.length (bvs ls)):=OL3;have HRL:Hid (rs.length≠0):=hrl;clear OL3 OR NR_ hg hh hn hcap hs ht hr hrl;obtain⟨i0,hi,hz0,hz1,hz2⟩:=info_parts pI
    go_wp2_with (first
     |(at_builtin;refine wpList_append_own _ rfl _ _ 61 rfl w.heap.size 28 i0 (.agg #[uV 0,uV 0]) 2 16 Tryz.underlying61 hi hz0 hz1 hz2 rfl (by decide) _ _ _ rfl HO3.out ⟨g,0,none⟩ rs.length cap (bvs rs) rfl (zD rs) CC.out (zi rs) ?c3 ?c4 ?c5 ?_)
     |go_in)
    case c3=>unfold maxLen;omega
    case c4=>omega
    case c5=>exact HF13.out.size
    ·intro v' w14 hown' hgrow hnil';have hF14:Below w.heap.size w w14:=HF13.out.grown hgrow HF13.out.size (fun k hk=>(HO3.out.lt k hk).1)
     have HNN:Hid ((ls++rs)=[]↔v'= .slice none 0 0):=by
      constructor
      ·intro h;have:(ls++rs).length=0:=by rw[h];rfl
       rw[List.length_append] at this;exact absurd (by omega) HRL.out
      ·intro h;exact absurd (by first|exact(hnil'.1 h).2|rw[(hnil'.1 h).2];rfl) HRL.out
     have HOO:Hid (w14.ownsRow w.heap.size 28 2 v' (ls++rs).length (bvs (ls++rs))):=by
      show World.ownsRow _ _ _ _ _ _ _
      rw[List.length_append,jz];exact hown'
     clear hown' hgrow hnil' CC HO3;go_wp2
     go_ret
     exact⟨_,rfl,HOO.out,HNN.out,hF14⟩
def BxV (W:World) (ao:Option Addr) (n:Nat) (xs:Nat→Nat×Nat):Prop:=
 n=0∨∃g off,ao=some ⟨g,off,none⟩∧g<W.heap.size∧∀i,i<n→W.cell? ⟨g,off+i*2,none⟩=some (uV ((xs i).1:Int))∧W.cell? ⟨g,off+i*2+1,none⟩=some (uV ((xs i).2:Int))
theorem BxV.below {W W':World} {ao:Option Addr} {n:Nat} {xs:Nat→Nat×Nat} (h:BxV W ao n xs) (hb:Below W.heap.size W W'):BxV W' ao n xs:=by
 rcases h with h0|⟨g,off,e,hg,hc⟩
 ·exact .inl h0
 ·exact .inr ⟨g,off,e,Nat.lt_of_lt_of_le hg hb.size,fun i hi=>by rw[hb.cell (by exact hg),hb.cell (by exact hg)];exact hc i hi⟩
theorem zg:∀(l:List (Nat×Nat)) (i:Nat),i<l.length→(bvs l)[i*2]?=some (uV ((l.getD i (0,0)).1:Int))∧(bvs l)[i*2+1]?=some (uV ((l.getD i (0,0)).2:Int))
 |[],i,h=>by simp at h
 |p::l,0,_=>⟨rfl,rfl⟩
 |p::l,i+1,h=>by
  have:=zg l i (by simp at h;omega);rw[show(i+1)*2=i*2+1+1 by omega,show i*2+1+1+1=(i*2+1)+1+1 by omega];exact this
theorem BxV.of_owns {w:World} {v:Value} {B T:Nat} (l:List (Nat×Nat)) (h:w.ownsRow B T 2 v l.length (bvs l)):∃ao c,v= .slice ao l.length c∧l.length≤c∧BxV w ao l.length (fun i=>l.getD i (0,0)):=by
 obtain⟨_,h2⟩:=h;rcases h2 with⟨rfl,h0⟩|⟨g,cap,cur,rfl,hg,hh,hn,hcap,hs,ht⟩
 ·rw[h0];exact⟨none,0,rfl,Nat.le_refl _,.inl rfl⟩
 ·refine⟨_,_,rfl,hn,.inr ⟨g,0,rfl,(Array.getElem?_eq_some_iff.1 hh).1,fun i hi=>?_⟩⟩;have hb:=zg l i hi;rw[←ht,List.getElem?_take,List.getElem?_take,if_pos (by omega),if_pos (by omega),Array.getElem?_toList,Array.getElem?_toList] at hb;rw[bf hh,bf hh,Nat.zero_add];exact hb
theorem mS (lo mo:Option Addr) (k j lc mc:Nat) (xs ys:Nat→Nat×Nat) (m:Int) (w:World) (hx:BxV w lo k xs) (hy:BxV w mo j ys) (hj:j≤mc) (hjm:j≤1000) (hk1:0<m→m<(j:Int)→(k:Int)=m) (hk2:¬(0<m∧m<(j:Int))→k=j) (hxy:∀i,i<k→xs i=ys i):
  aw 38 #[.slice lo k lc,.slice mo j mc,iV m] w (.bool true):=by
 have HX:=hid hx;have HY:=hid hy;have HE:=hid hxy;have HK1:=hid hk1;have HK2:=hid hk2;have hmw:Hid (mc=mc):=rfl;clear hx hy hxy hk1 hk2;by_cases hm:0<m
 ·by_cases hmj:m<(j:Int)
  ·have hkm:(k:Int)=m:=HK1.out hm hmj;obtain⟨g2,o2,rfl,hg2,hc2⟩:=HY.out.resolve_left (by omega);have HC2:=hid hc2;have HG2:=hid hg2;have hmc:m≤(mc:Int):=by omega
   have hmt:Hid (m.toNat=k):=by show m.toNat=k;omega
   clear HY hc2 hg2 HK1 HK2;subst hkm;go_enter Tryz.func38,Tryz.ntmps38;go_wp2_with fail
   go_loopw [7,8] (fun v _ wr=>∃i:Nat,i≤k∧v=iV (i:Int)∧Below w.heap.size w wr) (fun v _ _=>k-(intOf v).toNat)
   case atStart=>exact⟨0,Nat.zero_le _,rfl,Below.refl _ _⟩
   case round=>
    obtain⟨i,hi1,rfl,hb⟩:=hrel;by_cases hin:i<k
    ·obtain⟨g1,o1,rfl,hg1,hc1⟩:=HX.out.resolve_left (by omega);have a1:=(hc1 i hin).1;have a2:=(hc1 i hin).2;have a3:=(HC2.out i (by omega)).1;have a4:=(HC2.out i (by omega)).2;rw[HE.out i hin] at a1 a2;have hbk:Hid (Below w.heap.size w wr):=hb
     have CF:Hid (∀W,Below wr.heap.size wr W→W.cell? ⟨g1,o1+i*2,none⟩=some (uV ((ys i).1:Int))∧W.cell? ⟨g1,o1+i*2+1,none⟩=some (uV ((ys i).2:Int))∧W.cell? ⟨g2,o2+i*2,none⟩=some (uV ((ys i).1:Int))∧W.cell? ⟨g2,o2+i*2+1,none⟩=some (uV ((ys i).2:Int))):=by
      intro W hW;have hB:Below w.heap.size w W:=hb.trans (hW.mono hb.size);have hg2:=HG2.out;exact⟨(hB.cell (by exact hg1)).trans a1,(hB.cell (by exact hg1)).trans a2,(hB.cell (by exact hg2)).trans a3,(hB.cell (by exact hg2)).trans a4⟩
     clear a1 a2 a3 a4 hc1 hg1 HC2 HG2 HX HE hb;generalize(ys i).1=y1 at*;generalize(ys i).2=y2 at*;have CD:=hid (CF.out wr.drew (aK.drew));obtain⟨a1,a2,a3,a4⟩:=CF.out wr aK;go_wp2_with fail
     go_region_held3 (fun W=>W.cell? ⟨g1,o1+i*2,none⟩=some (.int .u64 (y1:Int))∧W.cell? ⟨g1,o1+i*2+1,none⟩=some (.int .u64 (y2:Int))∧W.cell? ⟨g2,o2+i*2,none⟩=some (.int .u64 (y1:Int))∧W.cell? ⟨g2,o2+i*2+1,none⟩=some (.int .u64 (y2:Int))) (first|with_reducible exact CD.out|with_reducible exact CF.out _ hb6.out)
      (first
        |(go_at_call 28;refine(iZ _ _ _).mono ?_;rintro e w4 ⟨rfl,hb4⟩
          have hb5:Hid (Below w.heap.size w w4):=(hbk.out.drew).trans (hb4.mono hbk.out.size);have hb6:Hid (Below wr.heap.size wr w4):=((Below.refl _ wr).drew).trans hb4;clear hb4))
     all_goals(clear a1 a2 a3 a4 CF CD hbk;go_wp2;go_roundw)
     case rel=>exact⟨i+1,by omega,by go_num,hb5.out⟩
     case measure=>simp[intOf];omega
    ·clear HX HE;go_wp2
     go_ret
     exact⟨rfl,hb⟩
  ·have hkj:k=j:=HK2.out (fun h=>hmj h.2);subst hkj;clear HK1 HK2;go_enter Tryz.func38,Tryz.ntmps38;go_wp2_with fail
   go_loopw [7,8] (fun v _ wr=>∃i:Nat,i≤k∧v=iV (i:Int)∧Below w.heap.size w wr) (fun v _ _=>k-(intOf v).toNat)
   case atStart=>exact⟨0,Nat.zero_le _,rfl,Below.refl _ _⟩
   case round=>
    obtain⟨i,hi1,rfl,hb⟩:=hrel;by_cases hin:i<k
    ·obtain⟨g1,o1,rfl,hg1,hc1⟩:=HX.out.resolve_left (by omega);obtain⟨g2,o2,rfl,hg2,hc2⟩:=HY.out.resolve_left (by omega);have HC2:=hid hc2;have HG2:=hid hg2;clear HY hc2 hg2;have a1:=(hc1 i hin).1;have a2:=(hc1 i hin).2;have a3:=(HC2.out i (by omega)).1;have a4:=(HC2.out i (by omega)).2;rw[HE.out i hin] at a1 a2;have hbk:Hid (Below w.heap.size w wr):=hb
     have CF:Hid (∀W,Below wr.heap.size wr W→W.cell? ⟨g1,o1+i*2,none⟩=some (uV ((ys i).1:Int))∧W.cell? ⟨g1,o1+i*2+1,none⟩=some (uV ((ys i).2:Int))∧W.cell? ⟨g2,o2+i*2,none⟩=some (uV ((ys i).1:Int))∧W.cell? ⟨g2,o2+i*2+1,none⟩=some (uV ((ys i).2:Int))):=by
      intro W hW;have hB:Below w.heap.size w W:=hb.trans (hW.mono hb.size);have hg2:=HG2.out;exact⟨(hB.cell (by exact hg1)).trans a1,(hB.cell (by exact hg1)).trans a2,(hB.cell (by exact hg2)).trans a3,(hB.cell (by exact hg2)).trans a4⟩
     clear a1 a2 a3 a4 hc1 hg1 HC2 HG2 HX HE hb;generalize(ys i).1=y1 at*;generalize(ys i).2=y2 at*;have CD:=hid (CF.out wr.drew (aK.drew));obtain⟨a1,a2,a3,a4⟩:=CF.out wr aK;go_wp2_with fail
     go_region_held3 (fun W=>W.cell? ⟨g1,o1+i*2,none⟩=some (.int .u64 (y1:Int))∧W.cell? ⟨g1,o1+i*2+1,none⟩=some (.int .u64 (y2:Int))∧W.cell? ⟨g2,o2+i*2,none⟩=some (.int .u64 (y1:Int))∧W.cell? ⟨g2,o2+i*2+1,none⟩=some (.int .u64 (y2:Int))) (first|with_reducible exact CD.out|with_reducible exact CF.out _ hb6.out)
      (first
        |(go_at_call 28;refine(iZ _ _ _).mono ?_;rintro e w4 ⟨rfl,hb4⟩
          have hb5:Hid (Below w.heap.size w w4):=(hbk.out.drew).trans (hb4.mono hbk.out.size);have hb6:Hid (Below wr.heap.size wr w4):=((Below.refl _ wr).drew).trans hb4;clear hb4))
     all_goals(clear a1 a2 a3 a4 CF CD hbk;go_wp2;go_roundw)
     case rel=>exact⟨i+1,by omega,by go_num,hb5.out⟩
     case measure=>simp[intOf];omega
    ·clear HX HE;go_wp2
     go_ret
     exact⟨rfl,hb⟩
 ·have hkj:k=j:=HK2.out (fun h=>hm h.1);subst hkj;clear HK1 HK2;go_enter Tryz.func38,Tryz.ntmps38;go_wp2_with fail
  go_loopw [7,8] (fun v _ wr=>∃i:Nat,i≤k∧v=iV (i:Int)∧Below w.heap.size w wr) (fun v _ _=>k-(intOf v).toNat)
  case atStart=>exact⟨0,Nat.zero_le _,rfl,Below.refl _ _⟩
  case round=>
   obtain⟨i,hi1,rfl,hb⟩:=hrel;by_cases hin:i<k
   ·obtain⟨g1,o1,rfl,hg1,hc1⟩:=HX.out.resolve_left (by omega);obtain⟨g2,o2,rfl,hg2,hc2⟩:=HY.out.resolve_left (by omega);have HC2:=hid hc2;have HG2:=hid hg2;clear HY hc2 hg2;have a1:=(hc1 i hin).1;have a2:=(hc1 i hin).2;have a3:=(HC2.out i (by omega)).1;have a4:=(HC2.out i (by omega)).2;rw[HE.out i hin] at a1 a2;have hbk:Hid (Below w.heap.size w wr):=hb
    have CF:Hid (∀W,Below wr.heap.size wr W→W.cell? ⟨g1,o1+i*2,none⟩=some (uV ((ys i).1:Int))∧W.cell? ⟨g1,o1+i*2+1,none⟩=some (uV ((ys i).2:Int))∧W.cell? ⟨g2,o2+i*2,none⟩=some (uV ((ys i).1:Int))∧W.cell? ⟨g2,o2+i*2+1,none⟩=some (uV ((ys i).2:Int))):=by
     intro W hW;have hB:Below w.heap.size w W:=hb.trans (hW.mono hb.size);have hg2:=HG2.out;exact⟨(hB.cell (by exact hg1)).trans a1,(hB.cell (by exact hg1)).trans a2,(hB.cell (by exact hg2)).trans a3,(hB.cell (by exact hg2)).trans a4⟩
    clear a1 a2 a3 a4 hc1 hg1 HC2 HG2 HX HE hb;generalize(ys i).1=y1 at*;generalize(ys i).2=y2 at*;have CD:=hid (CF.out wr.drew (aK.drew));obtain⟨a1,a2,a3,a4⟩:=CF.out wr aK;go_wp2_with fail
    go_region_held3 (fun W=>W.cell? ⟨g1,o1+i*2,none⟩=some (.int .u64 (y1:Int))∧W.cell? ⟨g1,o1+i*2+1,none⟩=some (.int .u64 (y2:Int))∧W.cell? ⟨g2,o2+i*2,none⟩=some (.int .u64 (y1:Int))∧W.cell? ⟨g2,o2+i*2+1,none⟩=some (.int .u64 (y2:Int))) (first|with_reducible exact CD.out|with_reducible exact CF.out _ hb6.out)
     (first
       |(go_at_call 28;refine(iZ _ _ _).mono ?_;rintro e w4 ⟨rfl,hb4⟩
         have hb5:Hid (Below w.heap.size w w4):=(hbk.out.drew).trans (hb4.mono hbk.out.size);have hb6:Hid (Below wr.heap.size wr w4):=((Below.refl _ wr).drew).trans hb4;clear hb4))
    all_goals(clear a1 a2 a3 a4 CF CD hbk;go_wp2;go_roundw)
    case rel=>exact⟨i+1,by omega,by go_num,hb5.out⟩
    case measure=>simp[intOf];omega
   ·clear HX HE;go_wp2
    go_ret
    exact⟨rfl,hb⟩
def bxs (xs:Nat→Nat×Nat) (n:Nat):List Value:=bvs ((List.range n).map xs)
theorem lh (xs:Nat→Nat×Nat) (n:Nat):bxs xs (n+1)=bxs xs n++[uV ((xs n).1:Int),uV ((xs n).2:Int)]:=by
 unfold bxs;rw[List.range_succ,List.map_append,jz]
 rfl
theorem BxV.congr {W:World} {ao:Option Addr} {n:Nat} {xs ys:Nat→Nat×Nat} (h:BxV W ao n xs) (e:∀i,i<n→xs i=ys i):BxV W ao n ys:=by
 rcases h with h|⟨g,off,e1,hg,h⟩
 ·exact .inl h
 ·exact .inr ⟨g,off,e1,hg,fun i hi=>by rw[←e i hi];exact h i hi⟩
theorem BxV.of_bxs {w:World} {v:Value} {B T n:Nat} {xs:Nat→Nat×Nat} (h:w.ownsRow B T 2 v n (bxs xs n)):∃ao c,v= .slice ao n c∧n≤c∧BxV w ao n xs:=by
 have hl:((List.range n).map xs).length=n:=by simp
 have h2:w.ownsRow B T 2 v ((List.range n).map xs).length (bvs ((List.range n).map xs)):=by rw[hl];exact h
 obtain⟨ao,c,e,hc,hb⟩:=BxV.of_owns _ h2;rw[hl] at e hc hb;refine⟨ao,c,e,hc,hb.congr fun i hi=>?_⟩;rw[List.getD_eq_getElem?_getD,List.getElem?_map,List.getElem?_range hi]
 rfl
theorem eQ {b s k:Nat} {T:TypeId} {w wr w1:World} {v:Value} {xs:List Value} {o:Obj} (hown:wr.ownsRow b T s v k xs) (hb:Below b w wr) (hB:b≤w.heap.size) (hgrow:(wr.alloc o).grownBy w1 v.ownBlock):Below b w w1:=by
 have hs:=hb.size;exact(hb.alloc (by omega) o).grown hgrow (by simp;omega) (fun k hk=>(hown.lt k hk).1)
theorem lZ {W:World} {a b:Value} {t:TypeId}:∀j u,([a,b]:List Value)[j]?=some u→(W.alloc (.cells #[a,b] t)).cell? ((Addr.mk W.heap.size 0 none).add j)=some u:=by
 intro j u hj;have hk:=af W (.cells #[a,b] t);obtain⟨c1,c2,-,-⟩:=aj hk
 match j,hj with
 |0,hj=>simp at hj;subst hj;exact c1
 |1,hj=>simp at hj;subst hj;exact c2
theorem qM {W:World} {a:Value} {t:TypeId}:∀j u,([a]:List Value)[j]?=some u→(W.alloc (.cells #[a] t)).cell? ((Addr.mk W.heap.size 0 none).add j)=some u:=by
 intro j u hj;have hk:=af W (.cells #[a] t)
 match j,hj with
 |0,hj=>
  simp at hj;subst hj;have e:(Addr.mk W.heap.size 0 none).add 0=⟨W.heap.size,0,none⟩:=by simp[Addr.add]
  rw[e,bf hk]
  rfl
theorem Cu:(Tryz.prog.info? 33).map (fun i=>(i.zero,i.size,i.bytes))=some (some (.agg #[uV 0,uV 0]),2,16):=by kernel_rfl
theorem xF {P:Program} (w:World) (base:Nat) (t ty e:TypeId) (i:TypeInfo) (z:Value) (size bytes:Nat) (ht:P.underlying t=some (.slice e)) (hi:P.info? e=some i) (hz:i.zero=some z)
  (hsize:i.size=size) (hby:i.bytes=bytes) (hzs:z.cells.size=size) (hsz:0<size)
  (v:Value) (n:Nat) (xs:List Value) (hown:w.ownsRow base e size v n xs)
  (a:Addr) (m c:Nat) (news:List Value) (hm:0<m) (hl:news.length=m*size) (hnews:∀j u,news[j]?=some u→w.cell? (a.add j)=some u) (h1:∀u∈news,u.oneCell'=true)
  (h63:n+m≤maxLen) (hbytes:(n+m)*bytes≤140737488355328) (hbase:base≤w.heap.size):
  ∃v' w',(Builtin.append_ #[t,t] ty #[v,.slice (some a) m c]).run P w= .ok v' w'∧w'.ownsRow base e size v' (n+m) (xs++news)∧w.grownBy w' v.ownBlock∧(v'.ownBlock=v.ownBlock∨v'.ownBlock=some w.heap.size):=by
 obtain⟨v',w',hr,h2,h3,-⟩:=run_append_own (P:=P) w base t ty e i z size bytes ht hi hz hsize hby hzs hsz v n xs hown a m c news hl hnews h1 h63 hbytes hbase;refine⟨v',w',hr,h2,h3,?_⟩;subst hsize;subst hby;have hsmall:n+m≤9223372036854775807:=by simp only[maxLen] at h63;omega
 obtain⟨hx,⟨rfl,rfl⟩|⟨g,cap,cur,rfl,-,hg,hnc,-,hcs,-⟩⟩:=id hown
 ·have hr2:=run_append_nil (P:=P) w t ty e i z ht hi hz a m c news hl hnews hm (by omega) (by have hb:=hbytes;simp only[Nat.zero_add] at hb;omega);rw[hr2] at hr
  cases hr
  right;simp[Value.ownBlock]
 ·by_cases hroom:n+m≤cap
  ·have hr2:=run_append_room (P:=P) w t ty e i ht hi g n cap cur hg a m c news hl hnews h1 hroom (by rw[hl,hcs,←Nat.add_mul];exact Nat.mul_le_mul_right _ hroom);rw[hr2] at hr
   cases hr
   left;simp[Value.ownBlock]
  ·have hr2:=run_append_grow (P:=P) w t ty e i z ht hi hz ⟨g,0,none⟩ n cap xs hx (hown.cells (g:=g) rfl) a m c news hl hnews (by omega) (by omega) (growslice_fits (by omega) hbytes);rw[hr2] at hr
   cases hr
   right;simp[Value.ownBlock]
theorem qP {P:Program} {w:World} {ops:Array Oper} {rest:List Oper} {o:Oper} {a:Act} {Q:Exit→Act→World→Prop} (hgd:o.guard=none) (s x:Operand) (t:TypeId)
  (ho:o.op= .call {callee:= .builtin .append,args:=#[s,x],argTypes:=#[t,t]})
  (base:Nat) (e:TypeId) (i:TypeInfo) (z:Value) (size bytes:Nat) (ht:P.underlying t=some (.slice e)) (hi:P.info? e=some i) (hz:i.zero=some z)
  (hsize:i.size=size) (hby:i.bytes=bytes) (hzs:z.cells.size=size) (hsz:0<size)
  (v:Value) (n:Nat) (xs:List Value) (hs:a.eval s=v) (hown:w.ownsRow base e size v n xs)
  (ad:Addr) (m c:Nat) (news:List Value) (hm:0<m) (hx:a.eval x= .slice (some ad) m c) (hl:news.length=m*size) (hnews:∀j u,news[j]?=some u→w.cell? (ad.add j)=some u) (h1:∀u∈news,u.oneCell'=true)
  (h63:n+m≤maxLen) (hbytes:(n+m)*bytes≤140737488355328) (hbase:base≤w.heap.size)
  (h:∀v' w',w'.ownsRow base e size v' (n+m) (xs++news)→w.grownBy w' v.ownBlock→(v'.ownBlock=v.ownBlock∨v'.ownBlock=some w.heap.size)→wpList P ops Q rest (a.put o.dst v') w'):wpList P ops Q (o::rest) a w:=by
 refine wpList_plain hgd fun _ hK=>?_
 obtain⟨v',w',hr,h2,h3,h4⟩:=xF (P:=P) w base t o.type e i z size bytes ht hi hz hsize hby hzs hsz v n xs hown ad m c news hm hl hnews h1 h63 hbytes hbase;unfold Oper.wp;simp[execOp,ho,resolve,invoke,builtin,hs,hx,hr,Result.andThen];exact hK _ _ (h v' w' h2 h3 h4)
theorem un (ao:Option Addr) (n c:Nat) (xs:Nat→Nat×Nat) (w:World) (h:BxV w ao n xs) (hn:n*16≤140737488355328):
  ax 84 #[.slice ao n c] w fun e w'=>∃bo bc,e= .returned (.slice bo n bc)∧BxV w' bo n xs∧Below w.heap.size w w':=by
 obtain⟨i0,hi,hz0,hz1,hz2⟩:=info_parts Cu;have HW:=hid h;clear h;go_enter Tryz.func84,Tryz.ntmps84;go_wp2
 go_loopw [3,4] (fun v x wr=>∃i:Nat,i≤n∧x=iV (i:Int)∧wr.ownsRow w.heap.size 33 2 v i (bxs xs i)∧Below w.heap.size w wr) (fun _ x _=>n-(intOf x).toNat)
 case atStart=>exact⟨0,Nat.zero_le _,rfl,World.ownsRow_nil _ _ _ _,Below.refl _ _⟩
 case round=>
  obtain⟨i,hi1,rfl,hown,hb⟩:=hrel;have HO:=hid hown;have HB:=hid hb;clear hown hb;by_cases hin:i<n
  ·obtain⟨g,off,rfl,hg,hc⟩:=HW.out.resolve_left (by omega);obtain⟨c1,c2⟩:=hc i hin;rw[←HB.out.cell (by exact hg)] at c1 c2;have HX:Hid (bxs xs (i+1)=bxs xs i++[uV ((xs i).1:Int),uV ((xs i).2:Int)]):=lh xs i;generalize(xs i).1=y1 at*;generalize(xs i).2=y2 at*;clear hc hg HW;go_wp2_with fail;refine (eH _ _ _).mono ?_;rintro e w1 ⟨rfl,hb1⟩;have HO:Hid (w1.ownsRow w.heap.size 33 2 _ i (bxs xs i)):=aH HO.out hb1 ae;have HB:Hid (Below w.heap.size w w1):=HB.out.trans (hb1.mono HB.out.size);clear hb1 c1 c2
   go_wp2_with (first
    |(at_builtin;refine wpList_append_own _ rfl _ _ 41 rfl w.heap.size 33 i0 (.agg #[uV 0,uV 0]) 2 16 Tryz.underlying41 hi hz0 hz1 hz2 rfl (by decide) _ _ _ rfl (HO.out.alloc _) ⟨w1.heap.size,0,none⟩ 1 1 [nV y1,nV y2] rfl rfl lZ ?c2 ?c3 ?c4 ?c5 ?_)
    |go_in)
   case c2=>intro u hu;simp at hu;rcases hu with rfl|rfl<;>rfl
   case c3=>unfold maxLen;omega
   case c4=>omega
   case c5=>have:=HB.out.size;simp;omega
   ·intro v' w2 hown' hgrow _;have HB2:=hid (eQ HO.out HB.out ae hgrow);rw[←HX.out] at hown';have HO2:=hid hown';clear hown' hgrow HO HB;go_wp2;go_roundw
    case rel=>exact⟨i+1,by omega,by go_num,HO2.out,HB2.out⟩
    case measure=>simp[intOf];omega
  ·have e:i=n:=by omega
   subst e;obtain⟨bo,bc,rfl,hc,hv⟩:=BxV.of_bxs HO.out;have HV:=hid hv;clear HO hc hv;go_wp2
   go_ret
   exact⟨bo,bc,rfl,HV.out,HB.out⟩
end
end Go.Proofs.YtonhpkigoplmaaaGreatDoor
