import Derived.Test.YtonhpkigoplmaaaGreatDoorZ20
set_option maxRecDepth 100000
set_option maxHeartbeats 40000000
namespace Go.Proofs.YtonhpkigoplmaaaGreatDoor
section
open Go.RowKit
theorem Ap (po:Option Addr) (n pc:Nat) (dep:Int) (xl xh v1 v2 v3:Nat) (vs:ByteArray) (a1 a2 c1 c2 q r:ap) (z ok l1 l2:Bool) (m al ah:Nat) (w:World)
  (hM:dF #[gU xl xh] a1 a2)
  (hE:∀W,Below w.heap.size w W→aw 36 #[.slice po n pc,gU xl xh] W (.tuple #[gU v1 v2,iV (v3:Int),.string vs]))
  (hV:dF #[gU v1 v2] c1 c2)
  (hz:∀(W:World) (v:Value),IvV W v c1 c2→aw 121 #[v] W (.bool z))
  (hk:v3≠0∨z=true)
  (hS:∀(W:World) (ao bo:Option Addr) (la ca lb cb:Nat),la=(digits a1.2.1).length→aq W (.slice ao la ca) a1.2.1→lb=(digits a2.2.1).length→aq W (.slice bo lb cb) a2.2.1→ax 65 #[.agg #[.bool a1.1,.slice ao la ca,iV a1.2.2],.agg #[.bool a2.1,.slice bo lb cb,iV a2.2.2]] W fun ev w''=>∃vo vl vc,ev= .returned (.agg #[.bool q.1,.slice vo vl vc,iV q.2.2])∧vl=(digits q.2.1).length∧aq w'' (.slice vo vl vc) q.2.1∧Below W.heap.size W w'')
  (hq1:-10000≤q.2.2) (hq2:q.2.2≤10000)
  (hR:∀(W:World) (vo:Option Addr) (vl vc:Nat),vl=(digits q.2.1).length→aq W (.slice vo vl vc) q.2.1→aw 115 #[.agg #[.bool q.1,.slice vo vl vc,iV (q.2.2-1)],iV 0] W (.tuple #[nV m,.bool ok]))
  (hP:∀W:World,ax 57 #[nV m] W fun e w'=>∃ro rl rc b,e= .returned (.tuple #[.agg #[.bool r.1,.slice ro rl rc,iV r.2.2],.bool b])∧rl=(digits r.2.1).length∧aq w' (.slice ro rl rc) r.2.1∧Below W.heap.size W w')
  (hL1:∀(W:World) (u v:Value),aM W u a1.1 a1.2.1 a1.2.2→aM W v r.1 r.2.1 r.2.2→aw 58 #[u,v] W (.bool l1))
  (hL2:∀(W:World) (u v:Value),aM W u r.1 r.2.1 r.2.2→aM W v a2.1 a2.2.1 a2.2.2→aw 58 #[u,v] W (.bool l2))
  (hR1:∀(W:World) (u:Value),aM W u a1.1 a1.2.1 a1.2.2→aw 115 #[u,iV 0] W (.tuple #[nV al,.bool true]))
  (hR2:∀(W:World) (u:Value),aM W u a2.1 a2.2.1 a2.2.2→aw 115 #[u,iV 0] W (.tuple #[nV ah,.bool true]))
  (hst:dep=0∨ok=false∨l1=false∨l2=false):
  ax 82 #[.slice po n pc,gU xl xh,iV dep] w fun e w'=>∃g,e= .returned (.slice (some ⟨g,0,none⟩) 1 1)∧w.heap.size≤g∧w'.heap[g]?=some (.cells #[nV al,nV ah] 28 (0,0))∧Below w.heap.size w w':=by
 have HM_:=hid hM;have HE_:=hid hE;have HV_:=hid hV;have HZ_:=hid hz;have HS_:=hid hS;have HR_:=hid hR;have HP_:=hid hP;have HL1_:=hid hL1;have HL2_:=hid hL2;have HR1_:=hid hR1;have HR2_:=hid hR2;have HST_:=hid hst;have HK_:Hid (v3≠0∨z=true):=hk;have qb1:-9223372036854775808≤q.2.2-1:=by omega
 have qb2:q.2.2-1<9223372036854775808:=by omega
 clear hM hE hV hz hS hR hP hL1 hL2 hR1 hR2 hst hk hq1 hq2;go_enter Tryz.func82,Tryz.ntmps82;go_wp2_with fail;have B4:=af w (.cells #[nV xl,nV xh] 28);have hW:Below w.heap.size w (w.alloc (.cells #[nV xl,nV xh] 28)):=aK.alloc ae _;generalize(w.alloc (.cells #[nV xl,nV xh] 28))=W1 at*;refine (HM_.out _).mono ?_;rintro e w1 ⟨ao,la,ca,bo,lb,cb,rfl,hla,hlb,hna,hnb,hb1⟩;have M1:Hid (QSt w (w1.alloc (.cells #[.bool a1.1,.slice ao la ca,iV a1.2.2,.bool a2.1,.slice bo lb cb,iV a2.2.2] 98)) w1.heap.size #[nV xl,nV xh] #[.bool a1.1,.slice ao la ca,iV a1.2.2,.bool a2.1,.slice bo lb cb,iV a2.2.2]):=⟨ai (aa B4 hb1) _,af w1 _,(hW.trans (hb1.mono hW.size)).alloc (Nat.le_trans hW.size hb1.size) _⟩;have LA:Hid (la=_):=hla;have LB:Hid (lb=_):=hlb;have NA:Hid (aq (w1.alloc (.cells #[.bool a1.1,.slice ao la ca,iV a1.2.2,.bool a2.1,.slice bo lb cb,iV a2.2.2] 98)) (.slice ao la ca) _):=hna.below aJ ae;have NB:Hid (aq (w1.alloc (.cells #[.bool a1.1,.slice ao la ca,iV a1.2.2,.bool a2.1,.slice bo lb cb,iV a2.2.2] 98)) (.slice bo lb cb) _):=hnb.below aJ ae;obtain⟨x0,x1,-,-⟩:=aj (aa B4 hb1);have lx:=ag (aa B4 hb1);clear B4 hW hb1 hla hlb hna hnb HM_;go_wp2_with fail;clear x0 x1 lx;generalize w1.heap.size=g7 at*;generalize(w1.alloc (.cells #[.bool a1.1,.slice ao la ca,iV a1.2.2,.bool a2.1,.slice bo lb cb,iV a2.2.2] 98))=W2 at*;refine (HE_.out _ M1.out.hb).mono ?_;rintro e w2 ⟨rfl,hb2⟩;have hs2:Below W2.heap.size W2 (w2.alloc (.cells #[nV v1,nV v2] 28)):=hb2.alloc hb2.size _;have M2:Hid (QSt w (w2.alloc (.cells #[nV v1,nV v2] 28)) g7 #[nV xl,nV xh] #[.bool a1.1,.slice ao la ca,iV a1.2.2,.bool a2.1,.slice bo lb cb,iV a2.2.2]):=M1.out.below hs2;have NA:Hid (aq (w2.alloc (.cells #[nV v1,nV v2] 28)) (.slice ao la ca) _):=NA.out.below hs2 ae;have NB:Hid (aq (w2.alloc (.cells #[nV v1,nV v2] 28)) (.slice bo lb cb) _):=NB.out.below hs2 ae;clear hb2 hs2 M1 HE_;go_wp2_with fail;generalize(w2.alloc (.cells #[nV v1,nV v2] 28))=W3 at*;refine (HV_.out _).mono ?_;rintro e w3 ⟨co,lc,cc,do_,ld,cd,rfl,hlc,hld,hnc,hnd,hb3⟩;have hs3:Below W3.heap.size W3 (w3.alloc (.cells #[.bool c1.1,.slice co lc cc,iV c1.2.2,.bool c2.1,.slice do_ ld cd,iV c2.2.2] 98)):=hb3.alloc hb3.size _;have M3:Hid (QSt w (w3.alloc (.cells #[.bool c1.1,.slice co lc cc,iV c1.2.2,.bool c2.1,.slice do_ ld cd,iV c2.2.2] 98)) g7 #[nV xl,nV xh] #[.bool a1.1,.slice ao la ca,iV a1.2.2,.bool a2.1,.slice bo lb cb,iV a2.2.2]):=M2.out.below hs3;have NA:Hid (aq (w3.alloc (.cells #[.bool c1.1,.slice co lc cc,iV c1.2.2,.bool c2.1,.slice do_ ld cd,iV c2.2.2] 98)) (.slice ao la ca) _):=NA.out.below hs3 ae;have NB:Hid (aq (w3.alloc (.cells #[.bool c1.1,.slice co lc cc,iV c1.2.2,.bool c2.1,.slice do_ ld cd,iV c2.2.2] 98)) (.slice bo lb cb) _):=NB.out.below hs3 ae;have IV:Hid (IvV (w3.alloc (.cells #[.bool c1.1,.slice co lc cc,iV c1.2.2,.bool c2.1,.slice do_ ld cd,iV c2.2.2] 98)) (.agg #[.bool c1.1,.slice co lc cc,iV c1.2.2,.bool c2.1,.slice do_ ld cd,iV c2.2.2]) c1 c2):=⟨co,lc,cc,do_,ld,cd,rfl,hlc,hld,hnc.below aJ ae,hnd.below aJ ae⟩;clear hb3 hs3 M2 HV_ hlc hld hnc hnd;go_wp2_with fail;generalize(w3.alloc (.cells #[.bool c1.1,.slice co lc cc,iV c1.2.2,.bool c2.1,.slice do_ ld cd,iV c2.2.2] 98))=W4 at*;refine (HZ_.out _ _ IV.out).mono ?_;rintro e w4 ⟨rfl,hb4⟩;have M4:Hid (QSt w w4 g7 #[nV xl,nV xh] #[.bool a1.1,.slice ao la ca,iV a1.2.2,.bool a2.1,.slice bo lb cb,iV a2.2.2]):=M3.out.below hb4;have NA:Hid (aq w4 (.slice ao la ca) _):=NA.out.below hb4 ae;have NB:Hid (aq w4 (.slice bo lb cb) _):=NB.out.below hb4 ae;obtain⟨y0,y1,y2,y3,y4,y5,-,-,-,-,-,-⟩:=bH M4.out.k7;clear hb4 M3 HZ_ IV
 have hkk:v3≠0∨(v3=0∧z=true):=by
  rcases HK_.out with h|h
  ·exact .inl h
  ·by_cases h0:v3=0
   ·exact .inr ⟨h0,h⟩
   ·exact .inl h0
 clear HK_;rcases hkk with hv|⟨hv,hzt⟩;have hv':¬(v3:Int)=0:=by omega
 clear hv;rotate_left;subst hv hzt;rotate_left
 all_goals
  go_wp2_with fail;refine (HS_.out _ ao bo la ca lb cb LA.out NA.out LB.out NB.out).mono ?_;rintro e w5 ⟨vo,vl,vc,rfl,hvl,hvn,hb5⟩;have hs5:Below w4.heap.size w4 (w5.alloc (.cells #[.bool q.1,.slice vo vl vc,iV (q.2.2-1)] 92)):=hb5.alloc hb5.size _;have M5:Hid (QSt w (w5.alloc (.cells #[.bool q.1,.slice vo vl vc,iV (q.2.2-1)] 92)) g7 #[nV xl,nV xh] #[.bool a1.1,.slice ao la ca,iV a1.2.2,.bool a2.1,.slice bo lb cb,iV a2.2.2]):=M4.out.below hs5;have NA:Hid (aq (w5.alloc (.cells #[.bool q.1,.slice vo vl vc,iV (q.2.2-1)] 92)) (.slice ao la ca) _):=NA.out.below hs5 ae;have NB:Hid (aq (w5.alloc (.cells #[.bool q.1,.slice vo vl vc,iV (q.2.2-1)] 92)) (.slice bo lb cb) _):=NB.out.below hs5 ae;have LV:Hid (vl=_):=hvl;have NV:Hid (aq (w5.alloc (.cells #[.bool q.1,.slice vo vl vc,iV (q.2.2-1)] 92)) (.slice vo vl vc) _):=hvn.below aJ ae;clear hvl hvn hb5 hs5 M4 HS_ y0 y1 y2 y3 y4 y5;go_wp2_with fail;generalize(w5.alloc (.cells #[.bool q.1,.slice vo vl vc,iV (q.2.2-1)] 92))=W5 at*;refine (HR_.out _ vo vl vc LV.out NV.out).mono ?_;rintro e w6 ⟨rfl,hb6⟩;have M6:Hid (QSt w w6 g7 #[nV xl,nV xh] #[.bool a1.1,.slice ao la ca,iV a1.2.2,.bool a2.1,.slice bo lb cb,iV a2.2.2]):=M5.out.below hb6;have NA:Hid (aq w6 (.slice ao la ca) _):=NA.out.below hb6 ae;have NB:Hid (aq w6 (.slice bo lb cb) _):=NB.out.below hb6 ae;clear hb6 M5 HR_ NV LV;go_wp2_with fail;refine (HP_.out _).mono ?_;rintro e w7 ⟨ro,rl,rc,bb,rfl,hrl,hrn,hb7⟩;have hs7:Below w6.heap.size w6 (w7.alloc (.cells #[.bool r.1,.slice ro rl rc,iV r.2.2] 92)):=hb7.alloc hb7.size _;have M7:Hid (QSt w (w7.alloc (.cells #[.bool r.1,.slice ro rl rc,iV r.2.2] 92)) g7 #[nV xl,nV xh] #[.bool a1.1,.slice ao la ca,iV a1.2.2,.bool a2.1,.slice bo lb cb,iV a2.2.2]):=M6.out.below hs7;have K16:Hid ((w7.alloc (.cells #[.bool r.1,.slice ro rl rc,iV r.2.2] 92)).heap[w7.heap.size]?=_):=af w7 _;have NA:Hid (aq (w7.alloc (.cells #[.bool r.1,.slice ro rl rc,iV r.2.2] 92)) (.slice ao la ca) _):=NA.out.below hs7 ae;have NB:Hid (aq (w7.alloc (.cells #[.bool r.1,.slice ro rl rc,iV r.2.2] 92)) (.slice bo lb cb) _):=NB.out.below hs7 ae;have LR:Hid (rl=_):=hrl;have NR:Hid (aq (w7.alloc (.cells #[.bool r.1,.slice ro rl rc,iV r.2.2] 92)) (.slice ro rl rc) _):=hrn.below aJ ae;obtain⟨y0,y1,y2,y3,y4,y5,-,-,-,-,-,-⟩:=bH (M6.out.below hb7).k7;have ly:=ag (M6.out.below hb7).k7;clear hrl hrn hb7 hs7 M6 HP_;go_wp2_with fail;clear y0 y1 y2 y3 y4 y5 ly;generalize hg16:w7.heap.size=g16 at*;generalize(w7.alloc (.cells #[.bool r.1,.slice ro rl rc,iV r.2.2] 92))=W7 at*;refine (HL1_.out _ _ _ ⟨_,_,_,rfl,LA.out,NA.out⟩ ⟨_,_,_,rfl,LR.out,NR.out⟩).mono ?_;rintro e w8 ⟨rfl,hb8⟩;have M8:Hid (QSt w w8 g7 #[nV xl,nV xh] #[.bool a1.1,.slice ao la ca,iV a1.2.2,.bool a2.1,.slice bo lb cb,iV a2.2.2]):=M7.out.below hb8;have NA:Hid (aq w8 (.slice ao la ca) _):=NA.out.below hb8 ae;have NB:Hid (aq w8 (.slice bo lb cb) _):=NB.out.below hb8 ae;have NR:Hid (aq w8 (.slice ro rl rc) _):=NR.out.below hb8 ae;obtain⟨y0,y1,y2,y3,y4,y5,-,-,-,-,-,-⟩:=bH M8.out.k7;obtain⟨u0,u1,u2,-,-,-⟩:=aB (aa K16.out hb8);clear hb8 M7 HL1_ K16;go_wp2_with fail;clear y0 y1 y2 y3 y4 y5 u0 u1 u2;refine (HL2_.out _ _ _ ⟨_,_,_,rfl,LR.out,NR.out⟩ ⟨_,_,_,rfl,LB.out,NB.out⟩).mono ?_;rintro e w9 ⟨rfl,hb9⟩;have M9:Hid (QSt w w9 g7 #[nV xl,nV xh] #[.bool a1.1,.slice ao la ca,iV a1.2.2,.bool a2.1,.slice bo lb cb,iV a2.2.2]):=M8.out.below hb9;have NA:Hid (aq w9 (.slice ao la ca) _):=NA.out.below hb9 ae;have NB:Hid (aq w9 (.slice bo lb cb) _):=NB.out.below hb9 ae;obtain⟨y0,y1,y2,y3,y4,y5,-,-,-,-,-,-⟩:=bH M9.out.k7;clear hb9 M8 HL2_ NR LR;go_wp2_with fail;clear y0 y1 y2 y3 y4 y5;refine (HR1_.out _ _ ⟨_,_,_,rfl,LA.out,NA.out⟩).mono ?_;rintro e w10 ⟨rfl,hb10⟩;have M10:Hid (QSt w w10 g7 #[nV xl,nV xh] #[.bool a1.1,.slice ao la ca,iV a1.2.2,.bool a2.1,.slice bo lb cb,iV a2.2.2]):=M9.out.below hb10;have NB:Hid (aq w10 (.slice bo lb cb) _):=NB.out.below hb10 ae;obtain⟨y0,y1,y2,y3,y4,y5,-,-,-,-,-,-⟩:=bH M10.out.k7;clear hb10 M9 HR1_ NA LA;go_wp2_with fail;clear y0 y1 y2 y3 y4 y5;refine (HR2_.out _ _ ⟨_,_,_,rfl,LB.out,NB.out⟩).mono ?_;rintro e w11 ⟨rfl,hb11⟩;have hF:Below w.heap.size w w11:=M10.out.hb.trans (hb11.mono M10.out.hb.size);clear hb11 M10 HR2_ NB LB;rcases HST_.out with h|h|h|h
  ·subst h;go_wp2_with fail
   go_ret
   exact⟨_,rfl,hF.size,af w11 _,hF.alloc hF.size _⟩
  ·subst h;by_cases hd:dep=0
   ·subst hd;go_wp2_with fail
    go_ret
    exact⟨_,rfl,hF.size,af w11 _,hF.alloc hF.size _⟩
   ·go_wp2_with fail
    go_ret
    exact⟨_,rfl,hF.size,af w11 _,hF.alloc hF.size _⟩
  ·subst h;by_cases hd:dep=0
   ·subst hd;go_wp2_with fail
    go_ret
    exact⟨_,rfl,hF.size,af w11 _,hF.alloc hF.size _⟩
   ·cases ok<;>
    (go_wp2_with fail
     go_ret
     exact⟨_,rfl,hF.size,af w11 _,hF.alloc hF.size _⟩)
  ·subst h;by_cases hd:dep=0
   ·subst hd;go_wp2_with fail
    go_ret
    exact⟨_,rfl,hF.size,af w11 _,hF.alloc hF.size _⟩
   ·cases ok<;>cases l1<;>
    (go_wp2_with fail
     go_ret
     exact⟨_,rfl,hF.size,af w11 _,hF.alloc hF.size _⟩)
end
end Go.Proofs.YtonhpkigoplmaaaGreatDoor
