import Derived.Test.YtonhpkigoplmaaaGreatDoorZ01
import Derived.Deep.RegionHeld3
import Derived.Laws.BitsAllLaws
import Ieee.Arith
set_option maxRecDepth 100000
set_option maxHeartbeats 40000000
namespace Go.Proofs.YtonhpkigoplmaaaGreatDoor
section
open Go.RowKit
def lvA (na:Nat) (ea eb:Int):Nat:=na*2^(ea-min ea eb).toNat
def lvB (nb:Nat) (ea eb:Int):Nat:=nb*2^(eb-min ea eb).toNat
def sumN (sa:Bool) (na:Nat) (ea:Int) (sb:Bool) (nb:Nat) (eb:Int):ap:=
 if sa=sb then(sa,lvA na ea eb+lvB nb ea eb,min ea eb)
 else if lvA na ea eb=lvB nb ea eb then(false,0,0)
 else if lvB nb ea eb<lvA na ea eb then(sa,lvA na ea eb-lvB nb ea eb,min ea eb)
 else(sb,lvB nb ea eb-lvA na ea eb,min ea eb)
theorem dQ {n k:Nat}:(digits (n*2^k)).length≤(digits n).length+k / 24+1:=by
 apply dO;have h1:=dL n;have e:(16777216:Nat)=2^24:=rfl;rw[e,←Nat.pow_mul] at h1⊢;have h2:n*2^k<2^(24*(digits n).length)*2^k:=Nat.mul_lt_mul_of_pos_right h1 (Nat.two_pow_pos _);rw[←Nat.pow_add] at h2;exact Nat.lt_of_lt_of_le h2 (Nat.pow_le_pow_right (by decide) (by omega))
theorem aG {W:World} {g g' j:Nat} {x:Obj} {u:Value} (h:W.heap[g]?=some x) (hne:g≠g'):(W.setCell ⟨g',j,none⟩ u).heap[g]?=some x:=by
 rw[Below.heap_setCell _ _ _ _ (by exact hne)];exact h
theorem aY {W:World} {g:Nat} {a b c a' b' c':Value} {t:TypeId} (h:W.heap[g]?=some (.cells #[a',b',c'] t (0,0))):
  (((W.setCell ⟨g,0,none⟩ a).setCell ⟨g,1,none⟩ b).setCell ⟨g,2,none⟩ c).heap[g]?=some (.cells #[a,b,c] t (0,0)):=by
 have:=heap_setCell_same _ g 2 _ t c (heap_setCell_same _ g 1 _ t b (heap_setCell_same W g 0 _ t a h));simpa using this
theorem aD {W:World} {g g':Nat} {x:Obj} {a b c:Value} (h:W.heap[g]?=some x) (hne:g≠g'):(((W.setCell ⟨g',0,none⟩ a).setCell ⟨g',1,none⟩ b).setCell ⟨g',2,none⟩ c).heap[g]?=some x:=
 aG (aG (aG h hne) hne) hne
theorem tZ {w0 w1:World} {N M:Nat} {a b c a2 b2 c2 p0 p1 p2 q0 q1 q2 r0 r1 r2:Value} (B0:w1.heap[N]?=some (.cells #[p0,p1,p2] 92 (0,0))) (B1:w1.heap[N+1]?=some (.cells #[q0,q1,q2] 92 (0,0)))
  (B2:w1.heap[N+1+1]?=some (.cells #[r0,r1,r2] 92 (0,0))) (hb:Below M w0 w1) (hN:M≤N):
  ((((((w1.setCell ⟨N,0,none⟩ a).setCell ⟨N,1,none⟩ b).setCell ⟨N,2,none⟩ c).setCell ⟨N+1,0,none⟩ a2).setCell ⟨N+1,1,none⟩ b2).setCell ⟨N+1,2,none⟩ c2).heap[N]?=some (.cells #[a,b,c] 92 (0,0))∧((((((w1.setCell ⟨N,0,none⟩ a).setCell ⟨N,1,none⟩ b).setCell ⟨N,2,none⟩ c).setCell ⟨N+1,0,none⟩ a2).setCell ⟨N+1,1,none⟩ b2).setCell ⟨N+1,2,none⟩ c2).heap[N+1]?=some (.cells #[a2,b2,c2] 92 (0,0))∧((((((w1.setCell ⟨N,0,none⟩ a).setCell ⟨N,1,none⟩ b).setCell ⟨N,2,none⟩ c).setCell ⟨N+1,0,none⟩ a2).setCell ⟨N+1,1,none⟩ b2).setCell ⟨N+1,2,none⟩ c2).heap[N+1+1]?=some (.cells #[r0,r1,r2] 92 (0,0))∧Below M w0 ((((((w1.setCell ⟨N,0,none⟩ a).setCell ⟨N,1,none⟩ b).setCell ⟨N,2,none⟩ c).setCell ⟨N+1,0,none⟩ a2).setCell ⟨N+1,1,none⟩ b2).setCell ⟨N+1,2,none⟩ c2)∧aU w1 ((((((w1.setCell ⟨N,0,none⟩ a).setCell ⟨N,1,none⟩ b).setCell ⟨N,2,none⟩ c).setCell ⟨N+1,0,none⟩ a2).setCell ⟨N+1,1,none⟩ b2).setCell ⟨N+1,2,none⟩ c2):=by
 refine⟨aD (aY B0) (by omega),aY (aD B1 (by omega)),aD (aD B2 (by omega)) (by omega),?_,?_⟩
 ·repeat refine Below.setCell ?_ (by first|exact hN|exact Nat.le_succ_of_le hN) _
  exact hb
 ·repeat refine aU.set ?_ (t:=92) (by(repeat refine aZ.set ?_);first|exact aZ.of B0|exact aZ.of B1) (by decide)
  exact aU.refl _
theorem aS {w:World} {g g' o o':Nat} {u:Value} (h:g≠g'):(w.setCell ⟨g',o',none⟩ u).cell? ⟨g,o,none⟩=w.cell? ⟨g,o,none⟩:=
 World.cell?_of_block (Below.heap_setCell _ _ _ _ (by exact h))
theorem aq.slice2 {w:World} {v:Value} {n:Nat} (h:aq w v n):∃ao len cap,v= .slice ao len cap∧Hid (len=(digits n).length):=by
 obtain⟨ao,cap,rfl⟩:=h.slice;exact⟨_,_,_,rfl,rfl⟩
theorem aq.heap {w w':World} {v:Value} {n:Nat} (h:aq w v n) (e:w'.heap=w.heap):aq w' v n:=h.keeps (fun g cur hg=>by rw[e];exact hg)
theorem Gf {w w':World} {B:Nat} (h1:w'.os=w.os) (h2:w'.tape=w.tape) (h3:w'.output=w.output) (e:w'.heap=w.heap):Below B w w':=⟨h1,h2,h3,by rw[e];exact Nat.le_refl _,fun k _=>by rw[e]⟩
theorem yM (xa xb:Value) (sa sb:Bool) (na nb:Nat) (ea eb:Int) (w:World) (ha:aM w xa sa na ea) (hb:aM w xb sb nb eb)
  (hla:(digits na).length≤400000) (hlb:(digits nb).length≤400000) (he1:-400000≤ea) (he2:ea≤400000) (he3:-400000≤eb) (he4:eb≤400000):
  ax 65 #[xa,xb] w fun ev w'=>∃x,ev= .returned x∧aM w' x (sumN sa na ea sb nb eb).1 (sumN sa na ea sb nb eb).2.1 (sumN sa na ea sb nb eb).2.2∧Below w.heap.size w w':=by
 obtain⟨ao,la,ca,rfl,hl1,hNa⟩:=ha;obtain⟨bo,lb,cb,rfl,hl2,hNb⟩:=hb;have HL1:=hid hl1;have HL2:=hid hl2;clear hl1 hl2;go_enter Tryz.func65,Tryz.ntmps65;go_wp2_with fail
 have hW:Below w.heap.size w (((w.alloc (.cells #[.bool sa,.slice ao la ca,iV ea] 92)).alloc (.cells #[.bool sb,.slice bo lb cb,iV eb] 92)).alloc (.cells #[.bool false,.slice none 0 0,iV 0] 92)):=
  (aJ.alloc (by simp) _).alloc (by simp;omega) _
 refine(Ch _ _ sa sb na nb ea eb _ ⟨_,_,_,rfl,HL1.out,hNa.below hW ae⟩ ⟨_,_,_,rfl,HL2.out,hNb.below hW ae⟩ (by omega) (by omega) he1 he2 he3 he4).mono ?_;rintro e w1 ⟨ya,yb,rfl,⟨ao1,la1,ca1,rfl,hm1,hM1⟩,⟨bo1,lb1,cb1,rfl,hm2,hM2⟩,hb1⟩;have hbA:=hW.trans (hb1.mono hW.size);have B0:=aa (ai (ai (af w _) _) _) hb1;have B1:=aa (ai (af (w.alloc _) _) _) hb1;have B2:=aa (af ((w.alloc _).alloc _) _) hb1;simp only[World.size_alloc] at B1 B2;obtain⟨k00,k01,k02,k03,k04,k05⟩:=aB B0;obtain⟨k10,k11,k12,k13,k14,k15⟩:=aB B1;have HS:Hid (lvA na ea eb=na*2^(ea-min ea eb).toNat∧lvB nb ea eb=nb*2^(eb-min ea eb).toNat):=⟨rfl,rfl⟩;have q1:(digits (lvA na ea eb)).length≤1000000:=Nat.le_trans dQ (by omega);have q2:(digits (lvB nb ea eb)).length≤1000000:=Nat.le_trans dQ (by omega);rw[←HS.out.1] at hm1 hM1;rw[←HS.out.2] at hm2 hM2;generalize hSN:sumN sa na ea sb nb eb=r;have HSN:=hid hSN;clear hSN;generalize hm:min ea eb=m at*;have Hm:=hid hm;clear hm;have HM1:=hid hm1;have HM2:=hid hm2;clear hm1 hm2 hb1 hW hNa hNb;have HB0:=hid B0;have HB1:=hid B1;have HB2:=hid B2;clear B0 B1 B2;by_cases hs:sa=sb
 ·subst hs;go_wp2_with fail;obtain⟨D0,D1,D2,hbB,hK⟩:=tZ (a:= .bool sa) (b:= .slice ao1 la1 ca1) (c:=iV m) (a2:= .bool sa) (b2:= .slice bo1 lb1 cb1) (c2:=iV m) HB0.out HB1.out HB2.out hbA ae;have hA2:=hM1.keeps hK;have hB2:=hM2.keeps hK;clear hM1 hM2 hK hbA HB0 HB1 HB2 k00 k01 k02 k03 k04 k05 k10 k11 k12 k13 k14 k15;generalize((((((w1.setCell {block:=w.heap.size,off:=0} (Value.bool sa)).setCell {block:=w.heap.size,off:=1} (Value.slice ao1 la1 ca1)).setCell {block:=w.heap.size,off:=2} (Value.int IntKind.i64 m)).setCell {block:=w.heap.size+1,off:=0} (Value.bool sa)).setCell {block:=w.heap.size+1,off:=1} (Value.slice bo1 lb1 cb1)).setCell {block:=w.heap.size+1,off:=2} (Value.int IntKind.i64 m))=W2 at*;have HD0:=hid D0;have HD1:=hid D1;have HD2:=hid D2;have HA2:=hid hA2;have HB2:=hid hB2;have Q1:=hid q1;have Q2:=hid q2
  have fin:Hid (∀(w3:World) (ao3:Option Addr) (la3 ca3:Nat),la3=(digits (lvA na ea eb+lvB nb ea eb)).length→aq w3 (.slice ao3 la3 ca3) (lvA na ea eb+lvB nb ea eb)→Below W2.drew.heap.size W2.drew w3→∃x,Ending.returned (.agg #[.bool sa,.slice ao3 la3 ca3,iV m])= .returned x∧aM (((w3.setCell ⟨w.heap.size+1+1,0,none⟩ (Value.bool sa)).setCell ⟨w.heap.size+1+1,1,none⟩ (Value.slice ao3 la3 ca3)).setCell ⟨w.heap.size+1+1,2,none⟩ (Value.int IntKind.i64 m)) x r.1 r.2.1 r.2.2∧Below w.heap.size w (((w3.setCell ⟨w.heap.size+1+1,0,none⟩ (Value.bool sa)).setCell ⟨w.heap.size+1+1,1,none⟩ (Value.slice ao3 la3 ca3)).setCell ⟨w.heap.size+1+1,2,none⟩ (Value.int IntKind.i64 m))):=by
   intro w3 ao3 la3 ca3 hl hn hb3;have hbx:=aZ.of (aa (show(W2.drew).heap[w.heap.size+1+1]?=_ from HD2.out) hb3);have hr:r=(sa,lvA na ea eb+lvB nb ea eb,m):=by rw[←HSN.out,←Hm.out];unfold sumN;simp
   have hk:aU w3 (((w3.setCell ⟨w.heap.size+1+1,0,none⟩ (Value.bool sa)).setCell ⟨w.heap.size+1+1,1,none⟩ (Value.slice ao3 la3 ca3)).setCell ⟨w.heap.size+1+1,2,none⟩ (Value.int IntKind.i64 m)):=by
    repeat refine aU.set ?_ (t:=92) (by(repeat refine aZ.set ?_);exact hbx) (by decide)
    exact aU.refl _
   refine⟨_,rfl,?_,?_⟩
   ·rw[hr];exact⟨_,_,_,rfl,hl,hn.keeps hk⟩
   ·repeat refine Below.setCell ?_ (by simp;try omega) _
    exact hbB.trans ((Below.refl _ W2).drew.trans (hb3.mono (by have:=hbB.size;show _≤W2.heap.size;omega))|>.mono ae)
  clear D0 D1 D2 hA2 hB2 q1 q2 hbB hla hlb he1 he2 he3 he4;obtain⟨k00,k01,k02,-,-,-⟩:=aB HD0.out;obtain⟨k10,k11,-,-,-,-⟩:=aB HD1.out;clear k10
  go_region_held3 (fun W=>W.cell? ⟨w.heap.size,0,none⟩=some (.bool sa)∧W.cell? ⟨w.heap.size,1,none⟩=some (.slice ao1 la1 ca1)∧W.cell? ⟨w.heap.size+1,1,none⟩=some (.slice bo1 lb1 cb1)∧W.cell? ⟨w.heap.size,2,none⟩=some (.int .i64 m)) (first|(go_keep;done)|(refine⟨?_,?_,?_,?_⟩<;>first|(go_keep;done)|(rw[aS (by omega),aS (by omega),aS (by omega)];assumption)))
   (first|(go_at_call 117;refine(fk (lvA na ea eb) (lvB nb ea eb) _ _ _ ?_ ?_ Q1.out Q2.out).mono ?_;exact HA2.out.heap rfl;exact HB2.out.heap rfl;rintro e w3 ⟨v3,rfl,hN3,hb3⟩;obtain⟨ao3,la3,ca3,rfl,HL3⟩:=hN3.slice2;have HN3:Hid (aq w3 _ _):=hN3;have HB3:Hid (Below _ _ w3):=hb3;obtain⟨j00,j01,j02,j03,j04,j05⟩:=aB (aa (show(W2.drew).heap[w.heap.size]?=_ from HD0.out) hb3);obtain⟨j10,j11,j12,j13,j14,j15⟩:=aB (aa (show(W2.drew).heap[w.heap.size+1]?=_ from HD1.out) hb3);obtain⟨j20,j21,j22,j23,j24,j25⟩:=aB (aa (show(W2.drew).heap[w.heap.size+1+1]?=_ from HD2.out) hb3);clear hN3 hb3 k01 k02 k00 k11 j03 j04 j05 j12 j13 j14 j15))
  go_wp2;refine bodyPost_ret (v:= .agg #[.bool sa,.slice ao3 la3 ca3,iV m]) (by simp[results,Tryz.results65,go_sem,j20,j21,j22]) rfl ?_;rw[HSN.out];exact fin.out w3 ao3 la3 ca3 HL3.out HN3.out HB3.out
 ·obtain rfl:sb=(!sa):=by cases sa<;>cases sb<;>simp at hs⊢
  clear hs;have hbb:(sa==!sa)=false:=by cases sa<;>rfl
  go_wp2_with fail;clear hbb;obtain⟨D0,D1,D2,hbB,hK⟩:=tZ (a:= .bool sa) (b:= .slice ao1 la1 ca1) (c:=iV m) (a2:= .bool (!sa)) (b2:= .slice bo1 lb1 cb1) (c2:=iV m) HB0.out HB1.out HB2.out hbA ae;have hA2:=hM1.keeps hK;have hB2:=hM2.keeps hK;clear hM1 hM2 hK hbA HB0 HB1 HB2 k00 k01 k02 k03 k04 k05 k10 k11 k12 k13 k14 k15;generalize((((((w1.setCell {block:=w.heap.size,off:=0} (Value.bool sa)).setCell {block:=w.heap.size,off:=1} (Value.slice ao1 la1 ca1)).setCell {block:=w.heap.size,off:=2} (Value.int IntKind.i64 m)).setCell {block:=w.heap.size+1,off:=0} (Value.bool (!sa))).setCell {block:=w.heap.size+1,off:=1} (Value.slice bo1 lb1 cb1)).setCell {block:=w.heap.size+1,off:=2} (Value.int IntKind.i64 m))=W2 at*;refine(pG (lvA na ea eb) (lvB nb ea eb) _ _ _ hA2 hB2 q1 q2).mono ?_;rintro e w4 ⟨rfl,hb4⟩;have hA2:=hA2.below hb4 ae;have hB2:=hB2.below hb4 ae;have D0:=aa D0 hb4;have D1:=aa D1 hb4;have D2:=aa D2 hb4;have hbB:=hbB.trans (hb4.mono hbB.size);clear hb4;obtain⟨W2,rfl⟩:∃W2:World,W2=w4:=⟨_,rfl⟩;rcases Nat.lt_trichotomy (lvA na ea eb) (lvB nb ea eb) with hgt|hgt|hgt
  ·have hgt:=hid hgt;rw[show cmpI (lvA na ea eb) (lvB nb ea eb)=-1 by unfold cmpI;rw[if_pos hgt.out]];go_wp2_with fail;have HD0:=hid D0;have HD1:=hid D1;have HD2:=hid D2;have HA2:=hid hA2;have HB2:=hid hB2;have Q1:=hid q1;have Q2:=hid q2
   have fin:Hid (∀(w3:World) (ao3:Option Addr) (la3 ca3:Nat),la3=(digits (lvB nb ea eb-lvA na ea eb)).length→aq w3 (.slice ao3 la3 ca3) (lvB nb ea eb-lvA na ea eb)→Below W2.drew.heap.size W2.drew w3→∃x,Ending.returned (.agg #[.bool (!sa),.slice ao3 la3 ca3,iV m])= .returned x∧aM (((w3.setCell ⟨w.heap.size+1+1,0,none⟩ (Value.bool (!sa))).setCell ⟨w.heap.size+1+1,1,none⟩ (Value.slice ao3 la3 ca3)).setCell ⟨w.heap.size+1+1,2,none⟩ (Value.int IntKind.i64 m)) x r.1 r.2.1 r.2.2∧Below w.heap.size w (((w3.setCell ⟨w.heap.size+1+1,0,none⟩ (Value.bool (!sa))).setCell ⟨w.heap.size+1+1,1,none⟩ (Value.slice ao3 la3 ca3)).setCell ⟨w.heap.size+1+1,2,none⟩ (Value.int IntKind.i64 m))):=by
    intro w3 ao3 la3 ca3 hl hn hb3;have hbx:=aZ.of (aa (show(W2.drew).heap[w.heap.size+1+1]?=_ from HD2.out) hb3);have hr:r=((!sa),lvB nb ea eb-lvA na ea eb,m):=by rw[←HSN.out,←Hm.out];unfold sumN;rw[if_neg (by simp),if_neg (by have:=hgt.out;omega),if_neg (by have:=hgt.out;omega)]
    have hk:aU w3 (((w3.setCell ⟨w.heap.size+1+1,0,none⟩ (Value.bool (!sa))).setCell ⟨w.heap.size+1+1,1,none⟩ (Value.slice ao3 la3 ca3)).setCell ⟨w.heap.size+1+1,2,none⟩ (Value.int IntKind.i64 m)):=by
     repeat refine aU.set ?_ (t:=92) (by(repeat refine aZ.set ?_);exact hbx) (by decide)
     exact aU.refl _
    refine⟨_,rfl,?_,?_⟩
    ·rw[hr];exact⟨_,_,_,rfl,hl,hn.keeps hk⟩
    ·repeat refine Below.setCell ?_ (by simp;try omega) _
     exact hbB.trans ((Below.refl _ W2).drew.trans (hb3.mono (by have:=hbB.size;show _≤W2.heap.size;omega))|>.mono ae)
   clear D0 D1 D2 hA2 hB2 q1 q2 hbB hla hlb he1 he2 he3 he4;obtain⟨k00,k01,k02,-,-,-⟩:=aB HD0.out;obtain⟨k10,k11,-,-,-,-⟩:=aB HD1.out;clear k00
   go_region_held3 (fun W=>W.cell? ⟨w.heap.size+1,0,none⟩=some (.bool (!sa))∧W.cell? ⟨w.heap.size,1,none⟩=some (.slice ao1 la1 ca1)∧W.cell? ⟨w.heap.size+1,1,none⟩=some (.slice bo1 lb1 cb1)∧W.cell? ⟨w.heap.size,2,none⟩=some (.int .i64 m)) (first|(go_keep;done)|(refine⟨?_,?_,?_,?_⟩<;>first|(go_keep;done)|(rw[aS (by omega),aS (by omega),aS (by omega)];assumption)))
    (first|(go_at_call 119;refine(oI (lvB nb ea eb) (lvA na ea eb) _ _ _ ?_ ?_ (by have:=hgt.out;omega) Q2.out).mono ?_;exact HB2.out.heap rfl;exact HA2.out.heap rfl;rintro e w3 ⟨v3,rfl,hN3,hb3⟩;obtain⟨ao3,la3,ca3,rfl,HL3⟩:=hN3.slice2;have HN3:Hid (aq w3 _ _):=hN3;have HB3:Hid (Below _ _ w3):=hb3;obtain⟨j00,j01,j02,j03,j04,j05⟩:=aB (aa (show(W2.drew).heap[w.heap.size]?=_ from HD0.out) hb3);obtain⟨j10,j11,j12,j13,j14,j15⟩:=aB (aa (show(W2.drew).heap[w.heap.size+1]?=_ from HD1.out) hb3);obtain⟨j20,j21,j22,j23,j24,j25⟩:=aB (aa (show(W2.drew).heap[w.heap.size+1+1]?=_ from HD2.out) hb3);clear hN3 hb3 k01 k02 k10 k11 j03 j04 j05 j12 j13 j14 j15))
   go_wp2;refine bodyPost_ret (v:= .agg #[.bool (!sa),.slice ao3 la3 ca3,iV m]) (by simp[results,Tryz.results65,go_sem,j20,j21,j22]) rfl ?_;rw[HSN.out];exact fin.out w3 ao3 la3 ca3 HL3.out HN3.out HB3.out
  ·rw[show cmpI (lvA na ea eb) (lvB nb ea eb)=0 by unfold cmpI;rw[if_neg (by omega),if_pos hgt]];have hgt:=hid hgt;have hr:r=(false,0,0):=by rw[←HSN.out];unfold sumN;rw[if_neg (by simp),if_pos hgt.out]
   obtain⟨k20,k21,k22,k23,k24,k25⟩:=aB D2
   have fin:Hid (∀W:World,Below w.heap.size w W→∃x,Ending.returned (.agg #[.bool false,.slice none 0 0,iV 0])= .returned x∧aM W x r.1 r.2.1 r.2.2∧Below w.heap.size w W):=by
    intro W hW;refine⟨_,rfl,?_,hW⟩;rw[hr];exact⟨_,_,_,rfl,rfl,aq.zero W⟩
   clear hr D0 D1 D2 hA2 hB2 q1 q2 hla hlb he1 he2 he3 he4;go_wp2;refine bodyPost_ret (v:= .agg #[.bool false,.slice none 0 0,iV 0]) (by simp[results,Tryz.results65,go_sem,k20,k21,k22]) rfl ?_;rw[HSN.out];refine fin.out _ ?_
   repeat refine Below.setCell ?_ (by simp;try omega) _
   exact hbB
  ·rw[show cmpI (lvA na ea eb) (lvB nb ea eb)=1 by unfold cmpI;rw[if_neg (by omega),if_neg (by omega)]];have hgt:=hid hgt;go_wp2_with fail;have HD0:=hid D0;have HD1:=hid D1;have HD2:=hid D2;have HA2:=hid hA2;have HB2:=hid hB2;have Q1:=hid q1;have Q2:=hid q2
   have fin:Hid (∀(w3:World) (ao3:Option Addr) (la3 ca3:Nat),la3=(digits (lvA na ea eb-lvB nb ea eb)).length→aq w3 (.slice ao3 la3 ca3) (lvA na ea eb-lvB nb ea eb)→Below W2.drew.heap.size W2.drew w3→∃x,Ending.returned (.agg #[.bool sa,.slice ao3 la3 ca3,iV m])= .returned x∧aM (((w3.setCell ⟨w.heap.size+1+1,0,none⟩ (Value.bool sa)).setCell ⟨w.heap.size+1+1,1,none⟩ (Value.slice ao3 la3 ca3)).setCell ⟨w.heap.size+1+1,2,none⟩ (Value.int IntKind.i64 m)) x r.1 r.2.1 r.2.2∧Below w.heap.size w (((w3.setCell ⟨w.heap.size+1+1,0,none⟩ (Value.bool sa)).setCell ⟨w.heap.size+1+1,1,none⟩ (Value.slice ao3 la3 ca3)).setCell ⟨w.heap.size+1+1,2,none⟩ (Value.int IntKind.i64 m))):=by
    intro w3 ao3 la3 ca3 hl hn hb3;have hbx:=aZ.of (aa (show(W2.drew).heap[w.heap.size+1+1]?=_ from HD2.out) hb3);have hr:r=(sa,lvA na ea eb-lvB nb ea eb,m):=by rw[←HSN.out,←Hm.out];unfold sumN;rw[if_neg (by simp),if_neg (by have:=hgt.out;omega),if_pos hgt.out]
    have hk:aU w3 (((w3.setCell ⟨w.heap.size+1+1,0,none⟩ (Value.bool sa)).setCell ⟨w.heap.size+1+1,1,none⟩ (Value.slice ao3 la3 ca3)).setCell ⟨w.heap.size+1+1,2,none⟩ (Value.int IntKind.i64 m)):=by
     repeat refine aU.set ?_ (t:=92) (by(repeat refine aZ.set ?_);exact hbx) (by decide)
     exact aU.refl _
    refine⟨_,rfl,?_,?_⟩
    ·rw[hr];exact⟨_,_,_,rfl,hl,hn.keeps hk⟩
    ·repeat refine Below.setCell ?_ (by simp;try omega) _
     exact hbB.trans ((Below.refl _ W2).drew.trans (hb3.mono (by have:=hbB.size;show _≤W2.heap.size;omega))|>.mono ae)
   clear D0 D1 D2 hA2 hB2 q1 q2 hbB hla hlb he1 he2 he3 he4;obtain⟨k00,k01,k02,-,-,-⟩:=aB HD0.out;obtain⟨k10,k11,-,-,-,-⟩:=aB HD1.out;clear k10
   go_region_held3 (fun W=>W.cell? ⟨w.heap.size,0,none⟩=some (.bool sa)∧W.cell? ⟨w.heap.size,1,none⟩=some (.slice ao1 la1 ca1)∧W.cell? ⟨w.heap.size+1,1,none⟩=some (.slice bo1 lb1 cb1)∧W.cell? ⟨w.heap.size,2,none⟩=some (.int .i64 m)) (first|(go_keep;done)|(refine⟨?_,?_,?_,?_⟩<;>first|(go_keep;done)|(rw[aS (by omega),aS (by omega),aS (by omega)];assumption)))
    (first|(go_at_call 119;refine(oI (lvA na ea eb) (lvB nb ea eb) _ _ _ ?_ ?_ (by have:=hgt.out;omega) Q1.out).mono ?_;exact HA2.out.heap rfl;exact HB2.out.heap rfl;rintro e w3 ⟨v3,rfl,hN3,hb3⟩;obtain⟨ao3,la3,ca3,rfl,HL3⟩:=hN3.slice2;have HN3:Hid (aq w3 _ _):=hN3;have HB3:Hid (Below _ _ w3):=hb3;obtain⟨j00,j01,j02,j03,j04,j05⟩:=aB (aa (show(W2.drew).heap[w.heap.size]?=_ from HD0.out) hb3);obtain⟨j10,j11,j12,j13,j14,j15⟩:=aB (aa (show(W2.drew).heap[w.heap.size+1]?=_ from HD1.out) hb3);obtain⟨j20,j21,j22,j23,j24,j25⟩:=aB (aa (show(W2.drew).heap[w.heap.size+1+1]?=_ from HD2.out) hb3);clear hN3 hb3 k01 k02 k00 k11 j03 j04 j05 j12 j13 j14 j15))
   go_wp2;refine bodyPost_ret (v:= .agg #[.bool sa,.slice ao3 la3 ca3,iV m]) (by simp[results,Tryz.results65,go_sem,j20,j21,j22]) rfl ?_;rw[HSN.out];exact fin.out w3 ao3 la3 ca3 HL3.out HN3.out HB3.out
theorem ltc {w:World} {p:Addr} {v:Value} (h:w.cell? p=some v):p.block<w.heap.size:=World.block_lt_of_cell? w p h
def kF (sa:Bool) (na:Nat) (ea:Int) (sb:Bool) (nb:Nat) (eb:Int):Bool:=
 decide (sgnI (sumN sa na ea (aQ sb nb) nb eb).1 (sumN sa na ea (aQ sb nb) nb eb).2.1<0)
theorem kR (xa xb:Value) (sa sb:Bool) (na nb:Nat) (ea eb:Int) (w:World) (ha:aM w xa sa na ea) (hb:aM w xb sb nb eb)
  (hla:(digits na).length≤400000) (hlb:(digits nb).length≤400000) (he1:-400000≤ea) (he2:ea≤400000) (he3:-400000≤eb) (he4:eb≤400000):
  aw 58 #[xa,xb] w (.bool (kF sa na ea sb nb eb)):=by
 obtain⟨ao,la,ca,rfl,hl1,hNa⟩:=ha;obtain⟨bo,lb,cb,rfl,hl2,hNb⟩:=hb;have HL1:=hid hl1;have HL2:=hid hl2;clear hl1 hl2;go_enter Tryz.func58,Tryz.ntmps58;go_wp2_with fail
 have hW:Below w.heap.size w ((w.alloc (.cells #[.bool sa,.slice ao la ca,iV ea] 92)).alloc (.cells #[.bool sb,.slice bo lb cb,iV eb] 92)):=
  aJ.alloc (by simp) _
 refine(qa _ sb nb eb _ ⟨_,_,_,rfl,HL2.out,hNb.below hW ae⟩).mono ?_;rintro e w1 ⟨x1,rfl,⟨ao1,la1,ca1,rfl,hm1,hM1⟩,hb1⟩;have B0:=aa (ai (af w _) _) hb1;have hNa1:=(hNa.below hW ae).below hb1 ae;have hbA:=hW.trans (hb1.mono hW.size);have HM1:=hid hm1;clear hNa hNb hW hb1 hm1;obtain⟨k00,k01,k02,-,-,-⟩:=aB B0;clear B0;have hz:=ltc k00;go_wp2_with fail;have hW2:Below w1.heap.size w1 (w1.alloc (.cells #[.bool (aQ sb nb),.slice ao1 la1 ca1,iV eb] 92)):=aK.alloc ae _;refine(yM _ _ sa (aQ sb nb) na nb ea eb _ ⟨_,_,_,rfl,HL1.out,hNa1.below hW2 ae⟩ ⟨_,_,_,rfl,HM1.out,hM1.below hW2 ae⟩ hla hlb he1 he2 he3 he4).mono ?_;rintro e w2 ⟨x2,rfl,⟨ao2,la2,ca2,rfl,hm2,hM2⟩,hb2⟩;have hbB:=(hbA.alloc hbA.size _).trans (hb2.mono (by simp;omega));have hlt:Hid (kF sa na ea sb nb eb=decide (sgnI (sumN sa na ea (aQ sb nb) nb eb).1 (sumN sa na ea (aQ sb nb) nb eb).2.1<0)):=rfl;have HM2:=hid hm2;clear hNa1 hM1 hbA hW2 hb2 k00 k01 k02 hz hm2;generalize sumN sa na ea (aQ sb nb) nb eb=r at*;obtain⟨rs,rn,re⟩:=r;simp only at hM2⊢;go_wp2_with fail;refine(fw _ rs rn re _ ⟨_,_,_,rfl,HM2.out,hM2.below aJ ae⟩).mono ?_;rintro e w3 ⟨rfl,hb3⟩;have hbC:=(hbB.alloc hbB.size _).trans (hb3.mono (by have:=hbB.size;simp;omega));clear hM2 hbB hb3;have hlt2:=hid hlt.out;clear hlt;go_wp2
 go_ret
 rw[hlt2.out];exact⟨rfl,hbC⟩
def au (b:Nat):Option (ap):=
 if b / 4503599627370496 % 2048=0∧b % 4503599627370496=0 then some (false,0,0)
 else if b / 4503599627370496 % 2048<123∨1923<b / 4503599627370496 % 2048∨(b / 4503599627370496 % 2048=1923∧0<b % 4503599627370496) then none
 else some (decide (b / 9223372036854775808=1),b % 4503599627370496+4503599627370496,((b / 4503599627370496 % 2048:Nat):Int)-1075)
theorem Db (b:Nat) (hb:b<18446744073709551616):bits .and .u64 ((b:Int) / 4503599627370496) 2047=((b / 4503599627370496 % 2048:Nat):Int):=by
 have h:=u64_and_nat (b / 4503599627370496) 2047 (by omega) (by decide);have e1:((b / 4503599627370496:Nat):Int)=(b:Int) / 4503599627370496:=by omega
 have e2:((2047:Nat):Int)=2047:=rfl;rw[e1,e2] at h;rw[h];have:b / 4503599627370496 &&& 2047=b / 4503599627370496 % 2048:=Nat.and_two_pow_sub_one_eq_mod _ 11;rw[this]
theorem BG (b:Nat) (hb:b<18446744073709551616):bits .and .u64 (b:Int) 4503599627370495=((b % 4503599627370496:Nat):Int):=by
 have h:=u64_and_nat b 4503599627370495 hb (by decide);have e2:((4503599627370495:Nat):Int)=4503599627370495:=rfl;rw[e2] at h;rw[h];have:b &&& 4503599627370495=b % 4503599627370496:=Nat.and_two_pow_sub_one_eq_mod _ 52;rw[this]
theorem vy (b:Nat):((b:Int) / 9223372036854775808==1)=decide (b / 9223372036854775808=1):=by
 rw[Bool.eq_iff_iff];simp only[beq_iff_eq,decide_eq_true_eq];omega
def CO (b:Nat) (w:World) (ev:Ending) (w':World):Prop:=
 ∃x,ev= .returned (.tuple #[x,.bool (au b).isSome])∧aM w' x ((au b).getD (false,0,0)).1 ((au b).getD (false,0,0)).2.1 ((au b).getD (false,0,0)).2.2∧Below w.heap.size w w'
theorem iw {b:Nat} {w W:World} {ok:Bool} (h:au b=some (false,0,0)∧ok=true∨au b=none∧ok=false) (hW:Below w.heap.size w W):CO b w (.returned (.tuple #[.agg #[.bool false,.slice none 0 0,iV 0],.bool ok])) W:=by
 rcases h with⟨h,rfl⟩|⟨h,rfl⟩
 ·exact⟨_,by rw[h];rfl,by rw[h];exact⟨_,_,_,rfl,rfl,aq.zero W⟩,hW⟩
 ·exact⟨_,by rw[h];rfl,by rw[h];exact⟨_,_,_,rfl,rfl,aq.zero W⟩,hW⟩
theorem gv (b:Nat) (w:World) (hb:b<18446744073709551616):
  ax 57 #[nV b] w fun ev w'=>CO b w ev w':=by
 have h1:=Db b hb;have h2:=BG b hb;have hn:Hid (au b=if b / 4503599627370496 % 2048=0∧b % 4503599627370496=0 then some (false,0,0) else if b / 4503599627370496 % 2048<123∨1923<b / 4503599627370496 % 2048∨(b / 4503599627370496 % 2048=1923∧0<b % 4503599627370496) then none else some (decide (b / 9223372036854775808=1),b % 4503599627370496+4503599627370496,((b / 4503599627370496 % 2048:Nat):Int)-1075)):=rfl;have he:b / 4503599627370496 % 2048<2048:=by omega
 have hf:b % 4503599627370496<4503599627370496:=by omega
 have HB:=hid hb;clear hb;generalize b / 4503599627370496 % 2048=e at*;generalize b % 4503599627370496=f at*;by_cases he0:e=0
 ·subst he0;by_cases hf0:f=0
  ·subst hf0;have r:Hid (au b=some (false,0,0)):=by show _=_;rw[hn.out];simp
   clear hn;go_enter Tryz.func57,Tryz.ntmps57;go_wp2;refine bodyPost_ret (v:= .tuple #[.agg #[.bool false,.slice none 0 0,iV 0],.bool true]) (by simp[results,Tryz.results57,go_sem]) rfl ?_;exact iw (Or.inl ⟨r.out,rfl⟩) aJ
  ·have r:Hid (au b=none):=by show _=_;rw[hn.out,if_neg (by omega),if_pos (by omega)]
   have t1:((f:Int)==0)=false:=by simp;omega
   clear hn;go_enter Tryz.func57,Tryz.ntmps57;go_wp2;refine bodyPost_ret (v:= .tuple #[.agg #[.bool false,.slice none 0 0,iV 0],.bool false]) (by simp[results,Tryz.results57,go_sem]) rfl ?_;exact iw (Or.inr ⟨r.out,rfl⟩) aJ
 ·have t0:((e:Int)==0)=false:=by simp;omega
  rcases(show e<123∨1923<e∨(e=1923∧0<f)∨(e=1923∧f=0)∨(123≤e∧e<1923) by omega) with g|g|⟨g,g'⟩|⟨g,g'⟩|⟨g,g'⟩
  ·have r:Hid (au b=none):=by show _=_;rw[hn.out,if_neg (by omega),if_pos (by omega)]
   clear hn;go_enter Tryz.func57,Tryz.ntmps57;go_wp2;refine bodyPost_ret (v:= .tuple #[.agg #[.bool false,.slice none 0 0,iV 0],.bool false]) (by simp[results,Tryz.results57,go_sem]) rfl ?_;exact iw (Or.inr ⟨r.out,rfl⟩) aJ
  ·have r:Hid (au b=none):=by show _=_;rw[hn.out,if_neg (by omega),if_pos (by omega)]
   clear hn;go_enter Tryz.func57,Tryz.ntmps57;go_wp2;refine bodyPost_ret (v:= .tuple #[.agg #[.bool false,.slice none 0 0,iV 0],.bool false]) (by simp[results,Tryz.results57,go_sem]) rfl ?_;exact iw (Or.inr ⟨r.out,rfl⟩) aJ
  ·have r:Hid (au b=none):=by show _=_;rw[hn.out,if_neg (by omega),if_pos (by omega)]
   subst g;clear hn;go_enter Tryz.func57,Tryz.ntmps57;go_wp2;refine bodyPost_ret (v:= .tuple #[.agg #[.bool false,.slice none 0 0,iV 0],.bool false]) (by simp[results,Tryz.results57,go_sem]) rfl ?_;exact iw (Or.inr ⟨r.out,rfl⟩) aJ
  ·have r:Hid (au b=some (decide (b / 9223372036854775808=1),f+4503599627370496,(e:Int)-1075)):=by show _=_;rw[hn.out,if_neg (by omega),if_neg (by omega)]
   subst g;subst g';clear hn;go_enter Tryz.func57,Tryz.ntmps57;go_wp2_with fail;skip;refine(dG (4503599627370496) _ (by omega)).mono ?_;rintro ev w1 ⟨v1,rfl,hN1,hb1⟩;obtain⟨ao1,la1,ca1,rfl,HL1⟩:=hN1.slice2;have B0:=aa (af w _) hb1;have hbA:=aJ.trans (hb1.mono (by simp));obtain⟨k00,k01,k02,k03,k04,k05⟩:=aB B0;have HBX:=hid (aZ.of B0);have HN1:=hid hN1;clear B0 hb1 hN1;go_wp2;refine bodyPost_ret (v:= .tuple #[.agg #[.bool ((b:Int) / 9223372036854775808==1),.slice ao1 la1 ca1,iV (848)],.bool true]) (by simp[results,Tryz.results57,go_sem,k00,k01,k02]) rfl ?_;refine⟨_,by rw[r.out];rfl,?_,?_⟩
   ·rw[r.out,vy];refine⟨_,_,_,rfl,HL1.out,HN1.out.keeps ?_⟩
    repeat refine aU.set ?_ (t:=92) (by(repeat refine aZ.set ?_);exact HBX.out) (by decide)
    exact aU.refl _
   ·repeat refine Below.setCell ?_ (by simp) _
    exact hbA
  ·have r:Hid (au b=some (decide (b / 9223372036854775808=1),f+4503599627370496,(e:Int)-1075)):=by show _=_;rw[hn.out,if_neg (by omega),if_neg (by omega)]
   have t3:((e:Int)==1923)=false:=by simp;omega
   clear hn;go_enter Tryz.func57,Tryz.ntmps57;go_wp2_with fail;rw[show(f:Int)+4503599627370496=((f+4503599627370496:Nat):Int) by omega];refine(dG (f+4503599627370496) _ (by omega)).mono ?_;rintro ev w1 ⟨v1,rfl,hN1,hb1⟩;obtain⟨ao1,la1,ca1,rfl,HL1⟩:=hN1.slice2;have B0:=aa (af w _) hb1;have hbA:=aJ.trans (hb1.mono (by simp));obtain⟨k00,k01,k02,k03,k04,k05⟩:=aB B0;have HBX:=hid (aZ.of B0);have HN1:=hid hN1;clear B0 hb1 hN1;go_wp2;refine bodyPost_ret (v:= .tuple #[.agg #[.bool ((b:Int) / 9223372036854775808==1),.slice ao1 la1 ca1,iV ((e:Int)-1075)],.bool true]) (by simp[results,Tryz.results57,go_sem,k00,k01,k02]) rfl ?_;refine⟨_,by rw[r.out];rfl,?_,?_⟩
   ·rw[r.out,vy];refine⟨_,_,_,rfl,HL1.out,HN1.out.keeps ?_⟩
    repeat refine aU.set ?_ (t:=92) (by(repeat refine aZ.set ?_);exact HBX.out) (by decide)
    exact aU.refl _
   ·repeat refine Below.setCell ?_ (by simp) _
    exact hbA
end
section
open Ieee
def sg (s:Bool) (n:Nat):Int:=if s then -(n:Int) else(n:Int)
theorem c9 (s:Bool) (m k:Nat):signed s m k=sg s (m*2^k):=by
 unfold signed sg;rw[Nat.shiftLeft_eq]
theorem Br (sa sb:Bool) (na nb:Nat) (ea eb:Int):
  sgnI (sumN sa na ea sb nb eb).1 (sumN sa na ea sb nb eb).2.1<0↔sg sa (lvA na ea eb)+sg sb (lvB nb ea eb)<0:=by
 unfold sumN sgnI sg;generalize lvA na ea eb=A;generalize lvB nb ea eb=B
 cases sa<;>cases sb<;>simp<;>(repeat' split)<;>simp_all<;>omega
theorem Fq (s:Bool) (n k:Nat):sg (aQ s n) (n*k)=-sg s (n*k):=by
 unfold sg aQ;by_cases h:n=0
 ·subst h;simp
 ·cases s<;>simp[h]
theorem xJ (sa sb:Bool) (na nb:Nat) (ea eb:Int):
  kF sa na ea sb nb eb=decide (sg sa (lvA na ea eb)<sg sb (lvB nb ea eb)):=by
 unfold kF;rw[decide_eq_decide,Br];have:sg (aQ sb nb) (lvB nb ea eb)=-sg sb (lvB nb ea eb):=Fq _ _ _;rw[this];omega
theorem i6 (s:Bool):sg s 0=0:=by cases s<;>rfl
theorem ky (s:Bool) (n k:Nat) (hk:0<k):(0<sg s (n*k)↔0<sg s n)∧(sg s (n*k)<0↔sg s n<0):=by
 unfold sg
 have:n*k=0↔n=0:=by
  constructor
  ·intro h;rcases Nat.mul_eq_zero.1 h with h|h<;>omega
  ·rintro rfl;simp
 cases s<;>constructor<;>constructor<;>intro h<;>simp at*<;>omega
theorem fp {b:Nat} {s:Bool} {n:Nat} {e:Int} (hb:b<18446744073709551616) (h:au b=some (s,n,e)):
  (n=0∧e=0∧b % 9223372036854775808=0∧∃s',double.read b= .number s' 0 (-1074))∨(0<n∧double.read b= .number s n e):=by
 unfold au at h;have hsw:double.signWeight=9223372036854775808:=rfl;have hbn:double.binade=4503599627370496:=rfl;have hir:double.infRung=9218868437227405312:=rfl;have hlp:double.leastPlace=-1074:=rfl;split at h
 ·rename_i h0
  left;simp only[Option.some.injEq,Prod.mk.injEq] at h;obtain⟨-,rfl,rfl⟩:=h;have hz:b % 9223372036854775808=0:=by omega
  refine⟨rfl,rfl,hz,(b / 9223372036854775808 % 2==1),?_⟩;unfold Format.read;simp only[hsw,hbn,hir,hlp,hz];rw[if_pos (by omega)]
 ·rename_i h0
  split at h
  ·cases h
  ·rename_i h1
   right;simp only[Option.some.injEq,Prod.mk.injEq] at h;obtain⟨rfl,rfl,rfl⟩:=h;refine⟨by omega,?_⟩;unfold Format.read;simp only[hsw,hbn,hir,hlp];rw[if_neg (by omega),if_pos (by omega)]
   congr 1
   ·rw[Bool.eq_iff_iff];simp only[beq_iff_eq,decide_eq_true_eq];omega
   ·omega
   ·omega
theorem GV (i:Int):(i-min i i).toNat=0:=by omega
theorem xR {a b:Nat} {sa sb:Bool} {na nb:Nat} {ea eb:Int} (ha:a<18446744073709551616) (hb:b<18446744073709551616) (pa:au a=some (sa,na,ea)) (pb:au b=some (sb,nb,eb)):
  (double.order a b==some Ordering.gt)=kF sb nb eb sa na ea:=by
 rw[xJ]
 have key:∀x y:Int,(some (compare x y)==some Ordering.gt)=decide (y<x):=by
  intro x y;rw[Bool.eq_iff_iff];simp[compare,compareOfLessAndEq];constructor
  ·intro h;split at h<;>(try split at h)<;>simp at h⊢<;>omega
  ·intro h;rw[if_neg (by omega),if_neg (by omega)]
 unfold Format.order;rcases fp ha pa with⟨rfl,rfl,-,s1,r1⟩|⟨hna,r1⟩<;>rcases fp hb pb with⟨rfl,rfl,-,s2,r2⟩|⟨hnb,r2⟩
 ·rw[r1,r2];simp only[Datum.order,key,c9,Nat.zero_mul,i6,lvA,lvB]
 ·rw[r1,r2];simp only[Datum.order,key,c9,Nat.zero_mul,i6,lvA,lvB];rw[decide_eq_decide,(ky sb nb _ (Nat.two_pow_pos _)).2,(ky sb nb _ (Nat.two_pow_pos _)).2]
 ·rw[r1,r2];simp only[Datum.order,key,c9,Nat.zero_mul,i6,lvA,lvB];rw[decide_eq_decide,(ky sa na _ (Nat.two_pow_pos _)).1,(ky sa na _ (Nat.two_pow_pos _)).1]
 ·rw[r1,r2];simp only[Datum.order,key,c9];have e1:lvA nb eb ea=nb*2^(eb-min ea eb).toNat:=by unfold lvA;rw[Int.min_comm]
  have e2:lvB na eb ea=na*2^(ea-min ea eb).toNat:=by unfold lvB;rw[Int.min_comm]
  rw[e1,e2]
theorem xw {r:Nat} (h:r<4503599627370496):double.read r= .number false r (-1074):=by
 have hsw:double.signWeight=9223372036854775808:=rfl;have hbn:double.binade=4503599627370496:=rfl;have hlp:double.leastPlace=-1074:=rfl;unfold Format.read;simp only[hsw,hbn,hlp];rw[Nat.mod_eq_of_lt (by omega),if_pos h,show r / 9223372036854775808=0 by omega]
 rfl
theorem o9 {r:Nat} (h:4503599627370496≤r) (h2:r<9218868437227405312):double.read r= .number false (4503599627370496+r % 4503599627370496) (((r / 4503599627370496:Nat):Int)-1075):=by
 have hsw:double.signWeight=9223372036854775808:=rfl;have hbn:double.binade=4503599627370496:=rfl;have hir:double.infRung=9218868437227405312:=rfl;have hlp:double.leastPlace=-1074:=rfl;unfold Format.read;simp only[hsw,hbn,hir,hlp];rw[Nat.mod_eq_of_lt (show r<9223372036854775808 by omega),if_neg (by omega),if_pos h2,show r / 9223372036854775808=0 by omega]
 congr 1
 omega
theorem wj:double.read 9218868437227405312= .infinity false:=rfl
theorem xy {r:Nat} (h:9218868437227405312<r) (h2:r<9223372036854775808):∃t,double.read r= .nan false t:=by
 have hsw:double.signWeight=9223372036854775808:=rfl;have hbn:double.binade=4503599627370496:=rfl;have hir:double.infRung=9218868437227405312:=rfl;unfold Format.read;simp only[hsw,hbn,hir];rw[Nat.mod_eq_of_lt h2,if_neg (by omega),if_neg (by omega),if_neg (by omega),show r / 9223372036854775808=0 by omega];exact⟨_,rfl⟩
theorem ju (m k:Nat):signed false m k=((m*2^k:Nat):Int):=by rw[c9];rfl
theorem bX {x y:Int} (h:x<y):compare x y= .lt:=by simp[compare,compareOfLessAndEq,h]
theorem cR {x y:Int} (h:x=y):compare x y= .eq:=by subst h;simp[compare,compareOfLessAndEq]
theorem bJ {x y:Int} (h:y<x):compare x y= .gt:=by
 simp only[compare,compareOfLessAndEq];rw[if_neg (by omega),if_neg (by omega)]
theorem tG {r K:Nat} (hr:r<9218868437227405312) (hK1:1≤K) (hK2:K≤2046):
  double.order r (K*4503599627370496)=some (if r<K*4503599627370496 then .lt else if r=K*4503599627370496 then .eq else .gt):=by
 have hk:double.read (K*4503599627370496)= .number false 4503599627370496 ((K:Int)-1075):=by
  rw[o9 (by omega) (by omega)];have e1:K*4503599627370496 % 4503599627370496=0:=by omega
  have e2:K*4503599627370496 / 4503599627370496=K:=by omega
  rw[e1,e2]
 unfold Format.order;rw[hk];by_cases hs:r<4503599627370496
 ·rw[xw hs,if_pos (by omega)];simp only[Datum.order,ju,Option.some.injEq];apply bX;have hb:min (-1074:Int) ((K:Int)-1075)=-1074:=by omega
  rw[hb];have h1:1≤2^((K:Int)-1075 - -1074).toNat:=Nat.one_le_two_pow;have h2:4503599627370496*1≤4503599627370496*2^((K:Int)-1075 - -1074).toNat:=Nat.mul_le_mul_left _ h1;have h0:((-1074:Int) - -1074).toNat=0:=rfl;rw[h0,Nat.pow_zero,Nat.mul_one];generalize 4503599627370496*2^((K:Int)-1075 - -1074).toNat=Y at*;omega
 ·rw[o9 (by omega) hr];simp only[Datum.order,ju,Option.some.injEq];have hf:r % 4503599627370496<4503599627370496:=by omega
  have hre:r=r / 4503599627370496*4503599627370496+r % 4503599627370496:=by omega
  generalize r / 4503599627370496=e at*;generalize r % 4503599627370496=f at*;rcases Nat.lt_trichotomy e K with h|h|h
  ·rw[if_pos (by omega)];apply bX;have hb:min ((e:Int)-1075) ((K:Int)-1075)=(e:Int)-1075:=by omega
   rw[hb];have h0:((e:Int)-1075-((e:Int)-1075)).toNat=0:=by omega
   have h3:((K:Int)-1075-((e:Int)-1075)).toNat=(K-e-1)+1:=by omega
   rw[h0,h3,Nat.pow_zero,Nat.mul_one,Nat.pow_succ];have h1:1≤2^(K-e-1):=Nat.one_le_two_pow;generalize 2^(K-e-1)=Y at*;omega
  ·subst h;have h0:∀x:Int,(x-min x x).toNat=0:=fun x=>by omega
   rw[h0,Nat.pow_zero,Nat.mul_one,Nat.mul_one,if_neg (by omega)];split
   ·exact cR (by omega)
   ·exact bJ (by omega)
  ·rw[if_neg (by omega),if_neg (by omega)];apply bJ;have hb:min ((e:Int)-1075) ((K:Int)-1075)=(K:Int)-1075:=by omega
   rw[hb];have h0:((K:Int)-1075-((K:Int)-1075)).toNat=0:=by omega
   have h3:((e:Int)-1075-((K:Int)-1075)).toNat=(e-K-1)+1:=by omega
   rw[h0,h3,Nat.pow_zero,Nat.mul_one,Nat.pow_succ];have h1:1≤2^(e-K-1):=Nat.one_le_two_pow;have h2:(4503599627370496+f)*2≤(4503599627370496+f)*(2^(e-K-1)*2):=Nat.mul_le_mul_left _ (by omega);generalize(4503599627370496+f)*(2^(e-K-1)*2)=Y at*;omega
theorem z6 {r:Nat} (hr:r<9223372036854775808):(double.order r 0==some Ordering.eq)=decide (r=0):=by
 have h0:double.read 0= .number false 0 (-1074):=rfl;unfold Format.order;rw[h0];rcases(show r<4503599627370496∨(4503599627370496≤r∧r<9218868437227405312)∨r=9218868437227405312∨9218868437227405312<r by omega) with h|⟨h,h2⟩|h|h
 ·rw[xw h];simp only[Datum.order,ju,Nat.zero_mul];have:((-1074:Int)-min (-1074) (-1074)).toNat=0:=rfl;rw[this,Nat.pow_zero,Nat.mul_one];by_cases hz:r=0
  ·subst hz;rfl
  ·rw[bJ (by omega)];simp[hz]
 ·rw[o9 h h2];simp only[Datum.order,ju,Nat.zero_mul];have h1:0<(4503599627370496+r % 4503599627370496)*2^(((r / 4503599627370496:Nat):Int)-1075-min (((r / 4503599627370496:Nat):Int)-1075) (-1074)).toNat:=Nat.mul_pos (by omega) (Nat.two_pow_pos _);rw[bJ (Int.ofNat_lt.2 h1)];have:r≠0:=by omega
  simp[this]
 ·subst h;rw[wj];rfl
 ·obtain⟨t,ht⟩:=xy h hr;rw[ht];have:r≠0:=by omega
  simp[Datum.order,this]
def qA (r:Nat):Bool:=
 (double.order r 0==some Ordering.eq)||((double.order r 553942754166571008==some Ordering.gt||double.order r 553942754166571008==some Ordering.eq) &&(double.order r 8660422083433463808==some Ordering.lt||double.order r 8660422083433463808==some Ordering.eq))
theorem xP {b:Nat} (_hb:b<18446744073709551616):qA (b % 9223372036854775808)=(au b).isSome:=by
 have hr:b % 9223372036854775808<9223372036854775808:=by omega
 have e1:b / 4503599627370496 % 2048=b % 9223372036854775808 / 4503599627370496:=by omega
 have e2:b % 4503599627370496=b % 9223372036854775808 % 4503599627370496:=by omega
 unfold qA au;rw[z6 hr,e1,e2];generalize b % 9223372036854775808=r at*;rcases(show r<9218868437227405312∨r=9218868437227405312∨9218868437227405312<r by omega) with h|h|h
 ·have o1:=tG (K:=123) h (by omega) (by omega);have o2:=tG (K:=1923) h (by omega) (by omega);have c1:123*4503599627370496=553942754166571008:=by decide
  have c2:1923*4503599627370496=8660422083433463808:=by decide
  rw[c1] at o1;rw[c2] at o2;rw[o1,o2];by_cases hz:r=0
  ·subst hz;rfl
  ·rw[if_neg (show¬(r / 4503599627370496=0∧r % 4503599627370496=0) by omega)];by_cases hp:553942754166571008≤r∧r≤8660422083433463808
   ·rw[if_neg (show¬(r / 4503599627370496<123∨1923<r / 4503599627370496∨(r / 4503599627370496=1923∧0<r % 4503599627370496)) by omega)];rw[if_neg (by omega)];have h1:r<8660422083433463808∨r=8660422083433463808:=by omega
    rcases h1 with h1|h1
    ·rw[if_pos h1];by_cases h2:r=553942754166571008
     ·rw[if_pos h2];simp
     ·rw[if_neg h2];simp
    ·rw[if_neg (by omega),if_pos h1,if_neg (by omega)];simp
   ·rw[if_pos (show(r / 4503599627370496<123∨1923<r / 4503599627370496∨(r / 4503599627370496=1923∧0<r % 4503599627370496)) by omega)];by_cases h1:r<553942754166571008
    ·rw[if_pos h1];simp[hz]
    ·rw[if_neg (show¬r<8660422083433463808 by omega),if_neg (show¬r=8660422083433463808 by omega)];simp[hz]
 ·subst h;rfl
 ·obtain⟨t,ht⟩:=xy h hr;rw[if_neg (by omega),if_pos (by omega)];have hz:r≠0:=by omega
  unfold Format.order;rw[ht];simp[Datum.order,hz]
end
end Go.Proofs.YtonhpkigoplmaaaGreatDoor
