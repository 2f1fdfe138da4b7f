import Derived.Test.YtonhpkigoplmaaaGreatDoorZ07
set_option maxRecDepth 100000
set_option maxHeartbeats 40000000
namespace Go.Proofs.YtonhpkigoplmaaaGreatDoor
section
open Go.RowKit
theorem lW (A:Nat→Addr) (z:bW) (ao:Option Addr) (n c:Nat) (lo hi:Int) (w:World) (hn:n≤1466015503701) (hS:aE A w)
  (hz:n=0∨∃g off,ao=some ⟨g,off,none⟩∧g<w.heap.size∧z.at w g off n)
  (hp:∀i,i<n→lo≤z.k i→z.k i≤hi→∀W,Below w.heap.size w W→aE A W→aw 18 #[z.val i] W (.bool true)):
  aw 14 #[.slice ao n c,iV lo,iV hi] w (iV (-1)):=by
 have HP:=hid hp;have HZ:=hid hz;have HS:=hid hS;clear hp hz hS;go_enter Tryz.func14,Tryz.ntmps14;go_wp2;have hM0:(n:Int)≤1152921504606846976:=by omega
 generalize(1152921504606846976:Int)=M at*
 go_loopw [7] (fun v wr=>∃i:Nat,i≤n∧v=iV (i:Int)∧Below w.heap.size w wr) (fun v _=>n-(intOf v).toNat)
 case atStart=>exact⟨0,Nat.zero_le _,rfl,Below.refl _ _⟩
 case round=>
  obtain⟨i,hi1,rfl,hbr⟩:=hrel;by_cases hin:i<n
  ·have hiM:(i:Int)<M:=by omega
   obtain⟨g,off,rfl,hg,hat⟩:=HZ.out.resolve_left (by omega);obtain⟨c0,c1,c2,c3,c4,c5,c6,c7,c8⟩:=hat i hin;rw[←hbr.cell (by exact hg)] at c0 c1 c2 c3 c4 c5 c6 c7 c8;have HSr:=hid (HS.out.below hbr ae);have HPi:=hid (HP.out i hin);have Hbr:=hid hbr;unfold bW.val at HPi;clear hat HZ HP HS hg hbr;generalize z.k i=zk at*;generalize z.a i=za at*;generalize z.b i=zb at*;generalize z.s i=zs at*;generalize z.xl i=zxl at*;generalize z.xh i=zxh at*;generalize z.yl i=zyl at*;generalize z.yh i=zyh at*;generalize z.po i=zpo at*;generalize z.pl i=zpl at*;generalize z.pc i=zpc at*;by_cases hk1:lo≤zk
   ·by_cases hk2:zk≤hi
    ·go_wp2_with fail;have hA1:Below wr.heap.size wr (wr.alloc (.cells #[iV zk,iV za,iV zb,.string zs,.int .u64 ↑zxl,.int .u64 ↑zxh,.int .u64 ↑zyl,.int .u64 ↑zyh,.slice zpo zpl zpc] 31)):=aK.alloc ae _;refine (HPi.out hk1 hk2 _ (Hbr.out.trans (hA1.mono Hbr.out.size)) (HSr.out.below hA1 ae)).mono ?_;rintro e w1 ⟨rfl,hb1⟩;have Hb1:=hid ((Hbr.out.alloc Hbr.out.size _).trans (hb1.mono (by have:=Hbr.out.size;simp;omega)));clear hA1 hb1 HPi HSr Hbr c0 c1 c2 c3 c4 c5 c6 c7 c8;go_wp2;go_roundw
     case rel=>exact⟨i+1,by omega,by go_num,Hb1.out⟩
     case measure=>simp[intOf];omega
    ·clear HPi HSr;go_wp2;go_roundw
     case rel=>exact⟨i+1,by omega,by go_num,Hbr.out.alloc Hbr.out.size _⟩
     case measure=>simp[intOf];omega
   ·clear HPi HSr;go_wp2;go_roundw
    case rel=>exact⟨i+1,by omega,by go_num,Hbr.out.alloc Hbr.out.size _⟩
    case measure=>simp[intOf];omega
  ·clear HZ HP HS;go_wp2
   go_ret
   exact⟨rfl,hbr⟩
def zup (n:Nat):Bool:=decide (n / 2^(bl n-54) % 2=1) &&(!decide (n % 2^(bl n-54)=0)||decide (n / 2^(bl n-53) % 2=1))
def cS (s:Bool) (n:Nat) (e:Int):Nat×Bool:=
 if n=0 then(0,true)
 else if bl n≤53 then bK s (n*2^(53-bl n)) (e+((bl n:Int)-53))
 else if zup n=true then
  (if n / 2^(bl n-53)+1=9007199254740992 then bK s 4503599627370496 (e+((bl n-53:Nat):Int)+1) else bK s (n / 2^(bl n-53)+1) (e+((bl n-53:Nat):Int)))
 else bK s (n / 2^(bl n-53)) (e+((bl n-53:Nat):Int))
def kP (s:Bool) (n:Nat) (e:Int) (w:World) (ev:Ending) (w':World):Prop:=
 ev= .returned (.tuple #[uV ((cS s n e).1:Int),.bool (cS s n e).2])∧Below w.heap.size w w'
theorem gP {s:Bool} {n m:Nat} {e e':Int} {w wm w2:World} (r:cS s n e=bK s m e') (h1:Below w.heap.size w wm) (h2:Below wm.heap.size wm w2):kP s n e w (.returned (.tuple #[uV ((bK s m e').1:Int),.bool (bK s m e').2])) w2:=
 ⟨by rw[r],h1.trans (h2.mono h1.size)⟩
theorem uy (d:Nat) (h:d<16777216):bits .and .i64 (d:Int) 1=((d % 2:Nat):Int):=by
 show IntKind.i64.wrap ((BitVec.ofInt 64 (d:Int) &&& BitVec.ofInt 64 1).toNat:Int)=_
 rw[BitVec.toNat_and,BitVec.toNat_ofInt,BitVec.toNat_ofInt,IntKind.wrap_i64];have e1:((d:Int) %((2^64:Nat):Int)).toNat=d:=by omega
 have e2:((1:Int) %((2^64:Nat):Int)).toNat=1:=by decide
 rw[e1,e2,Nat.and_one_is_mod];omega
theorem xO {n:Nat} (h:n≠0):(digits n).getD 0 0=n % 16777216∧0<(digits n).length:=by
 have hn:digits n≠[]:=fun hc=>h ((d6 n).1 hc)
 obtain⟨d,l,hl⟩:=List.exists_cons_of_ne_nil hn;have hv:=bB n;have hd:=eZ n d (by rw[hl];exact List.mem_cons_self);rw[hl] at hv⊢;refine⟨?_,by simp⟩;have:nval (d::l)=d+16777216*nval l:=rfl;simp only[List.getD_cons_zero];omega
theorem oD {w:World} {v:Value} {n:Nat} (h:aq w v n) (h0:n≠0):∃b off len cap,v= .slice (some ⟨b,off,none⟩) len cap∧0<len∧w.cell? ⟨b,off,none⟩=some (iV ((n % 16777216:Nat):Int)):=by
 obtain⟨hd,hl⟩:=xO h0;rcases h.2 with⟨_,he⟩|⟨b,off,cap,cur,rfl,hh,hc,hcell⟩
 ·rw[he] at hl;simp at hl
 ·refine⟨b,off,_,cap,rfl,hl,?_⟩;have:=hcell 0 hl;rw[Nat.add_zero,hd] at this;rw[bf hh];exact this
theorem yv (x:Value) (s:Bool) (n:Nat) (e:Int) (w:World) (hx:aM w x s n e) (hn:53<bl n) (hn2:bl n≤100000) (he1:-200000≤e) (he2:e≤200000):
  ax 115 #[x,iV 0] w fun ev w'=>kP s n e w ev w':=by
 obtain⟨ao,la,ca,rfl,hl1,hN⟩:=hx;have hlen:=eG n;have HL:=hid hl1;have hW:Below w.heap.size w (w.alloc (.cells #[.bool s,.slice ao la ca,iV e] 92)):=aK.alloc ae _;have HN:=hid (hN.below hW ae);have HW:=hid hW;have HLB:Hid _:=iE hn;have HLN:Hid ((digits n).length≤500000):=by show _≤_;omega
 have H0:n≠0:=by rintro rfl;simp[i8] at hn
 have HZ1:Hid (zup n=true→n / 2^(bl n-53)+1=9007199254740992→cS s n e=bK s 4503599627370496 (e+((bl n-53:Nat):Int)+1)):=fun h1 h2=>by unfold cS;rw[if_neg H0,if_neg (by omega),if_pos h1,if_pos h2]
 have HZ2:Hid (zup n=true→¬n / 2^(bl n-53)+1=9007199254740992→cS s n e=bK s (n / 2^(bl n-53)+1) (e+((bl n-53:Nat):Int))):=fun h1 h2=>by unfold cS;rw[if_neg H0,if_neg (by omega),if_pos h1,if_neg h2]
 have HZ3:Hid (zup n=false→cS s n e=bK s (n / 2^(bl n-53)) (e+((bl n-53:Nat):Int))):=fun h1=>by unfold cS;rw[if_neg H0,if_neg (by omega),if_neg (by rw[h1];exact Bool.false_ne_true)]
 have HZU:Hid (zup n=(decide (n / 2^(bl n-54) % 2=1) &&(!decide (n % 2^(bl n-54)=0)||decide (n / 2^(bl n-53) % 2=1)))):=rfl;have HS:=hid (ck n _ _ HN.out (by have:=HLN.out;omega));clear hl1 hN hW hlen H0;generalize bl n=B at*;obtain⟨K,rfl⟩:∃K,B=K+53:=⟨B-53,by omega⟩;obtain⟨j,hj⟩:∃j,K=j+1:=⟨K-1,by omega⟩;rw[show K+53-53=K by omega] at HLB HZ1 HZ2 HZ3 HZU;rw[show K+53-54=j by omega] at HZU;have HJ:=hid hj;have t3:(K:Int)-1=(j:Int):=by omega
 clear hj;go_enter Tryz.func115,Tryz.ntmps115;go_wp2_with fail;refine Calls.mono HS.out ?_;rintro ev w1 ⟨rfl,rfl⟩;obtain⟨k00,k01,k02,k03,k04,k05⟩:=aB (af w (.cells #[.bool s,.slice ao la ca,iV e] 92));have t0:(((K+53:Nat):Int)==0)=false:=by rw[beq_eq_false_iff_ne];omega
 have t2:((K+53:Nat):Int)-53=(K:Int):=by omega
 go_wp2_with fail;refine(gn n K _ _ HN.out (by have:=HLN.out;omega) (by omega)).mono ?_;rintro ev w2 ⟨v2,rfl,hN2,hb2⟩;obtain⟨qb,qo,ql,qc,rfl,hql,hqc⟩:=oD hN2 (by have:=HLB.out.1;omega);have HB2:=hid (HW.out.trans (hb2.mono HW.out.size));have HQ2:=hid hN2;have HNN:=hid (HN.out.below hb2 ae);have HK2:=hid (aa (af w (.cells #[.bool s,.slice ao la ca,iV e] 92)) hb2);obtain⟨j00,j01,j02,j03,j04,j05⟩:=aB HK2.out;have hlq:=eG (n / 2^K);rw[eB HLB.out.1 HLB.out.2] at hlq;have HLQ:=hid hlq;have HS2:=hid (eB HLB.out.1 HLB.out.2);have HQL:=hid hql
 have HH0:Hid (n / 2^j≠0):=by
  show _≠_
  have h1:=HLB.out.1;rw[HJ.out,Nat.pow_succ,←Nat.div_div_eq_div_mul] at h1;omega
 clear hb2 hN2 hlq k00 k01 k02 k03 k04 k05 HS HN HW t0 t2 hqc hql
 cases hz:decide (n % 2^K=0)
 rotate_left;rotate_left
 all_goals
  clear hz;go_wp2_with fail;refine(gn n j _ _ HNN.out (by have:=HLN.out;omega) (by omega)).mono ?_;rintro ev w3 ⟨v3,rfl,hN3,hb3⟩;obtain⟨hb_,ho,hl,hc_,rfl,hhl,hhc⟩:=oD hN3 HH0.out;have HB3:=hid (HB2.out.trans (hb3.mono HB2.out.size));have HQ3:=hid (HQ2.out.below hb3 ae);have HN3:=hid (HNN.out.below hb3 ae);have HK3:=hid (aa HK2.out hb3);obtain⟨j00,j01,j02,j03,j04,j05⟩:=aB HK3.out;have hhl':(0:Int)<(hl:Int):=by omega
  have hand:=uy (n / 2^j % 16777216) (by omega);rw[show n / 2^j % 16777216 % 2=n / 2^j % 2 by omega] at hand;clear hb3 hN3 HB2 HQ2 HNN HK2 HH0;generalize n / 2^j % 16777216=d at*;rcases(show n / 2^j % 2=0∨n / 2^j % 2=1 by omega) with hp|hp
  ·rw[hp] at hand
   have UP:Hid (zup n=false):=by
    show _=_
    rw[HZU.out,hp];rfl
   have hand0:=hand;clear hp hand HZU;go_wp2_with fail;refine(gn n j _ _ HN3.out (by have:=HLN.out;omega) (by omega)).mono ?_;rintro ev w4 ⟨v4,rfl,hN4,hb4⟩;obtain⟨ao4,la4,ca4,rfl,HL4⟩:=hN4.slice2;have HB4:=hid (HB3.out.trans (hb4.mono HB3.out.size));have HQ4:=hid (HQ3.out.below hb4 ae);have HK4:=hid (aa HK3.out hb4);obtain⟨i00,i01,i02,i03,i04,i05⟩:=aB HK4.out;clear hb4 hN4 HB3 HQ3 HN3 HK3 j00 j01 j02 j03 j04 j05 hhc hhl hhl' hand0;generalize decide (n % 2^j=0)=lw at*
   cases lw<;>(
    go_wp2_with fail;have FIN2:=hid (HZ3.out UP.out);refine(ck _ _ _ HQ4.out (by have:=HLQ.out;omega)).mono ?_;rintro ev w7 ⟨rfl,rfl⟩;rw[HS2.out];go_wp2_with fail;refine(cv _ (n / 2^K) (e+(K:Int)) _ _ HQ4.out HLB.out.1 HLB.out.2 (by omega) (by omega)).mono ?_;rintro ev w9 ⟨rfl,hb9⟩;have HB9:=hid hb9;clear hb9;go_wp2;go_ret2;exact gP FIN2.out HB4.out HB9.out)
  ·rw[hp] at hand;have hand1:=hand
   have HZV:Hid (zup n=(!decide (n % 2^j=0)||decide (n / 2^K % 2=1))):=by
    show _=_
    rw[HZU.out,hp];rfl
   clear hp hand HZU;go_wp2_with fail;refine(gn n j _ _ HN3.out (by have:=HLN.out;omega) (by omega)).mono ?_;rintro ev w4 ⟨v4,rfl,hN4,hb4⟩;obtain⟨ao4,la4,ca4,rfl,HL4⟩:=hN4.slice2;have HB4:=hid (HB3.out.trans (hb4.mono HB3.out.size));have HQ4:=hid (HQ3.out.below hb4 ae);have HK4:=hid (aa HK3.out hb4);obtain⟨i00,i01,i02,i03,i04,i05⟩:=aB HK4.out;clear hb4 hN4 HB3 HQ3 HN3 HK3 j00 j01 j02 j03 j04 j05 hhc hhl hhl' hand1
   cases hlw:decide (n % 2^j=0)
   ·have UP:Hid (zup n=true):=by
     show _=_
     rw[HZV.out,hlw];rfl
    clear hlw HZV;go_wp2_with fail;refine(dG 1 _ (by omega)).mono ?_;rintro ev w5 ⟨v5,rfl,hN5,hb5⟩;obtain⟨ao5,la5,ca5,rfl,HL5⟩:=hN5.slice2;have HN5:=hid hN5;have HQ5:=hid (HQ4.out.below hb5 ae);have HK5:=hid (aa HK4.out hb5);have HB5:=hid (HB4.out.trans (hb5.mono HB4.out.size));clear hb5 hN5 HQ4 HK4 HB4;go_wp2_with fail;refine(fk (n / 2^K) 1 _ _ _ HQ5.out HN5.out (by have:=HLQ.out;omega) (by decide)).mono ?_;rintro ev w6 ⟨v6,rfl,hN6,hb6⟩;obtain⟨ao6,la6,ca6,rfl,HL6⟩:=hN6.slice2;have HN6:=hid hN6;have HK6:=hid (aa HK5.out hb6);have HB6:=hid (HB5.out.trans (hb6.mono HB5.out.size));obtain⟨i00,i01,i02,i03,i04,i05⟩:=aB HK6.out;clear hb6 hN6 HQ5 HK5 HB5 HN5;go_wp2_with fail;by_cases hq:n / 2^K+1=9007199254740992
    ·have FIN2:=hid (HZ1.out UP.out hq);rw[hq] at HN6;refine(ck 9007199254740992 _ _ HN6.out (by decide)).mono ?_;rintro ev w7 ⟨rfl,rfl⟩;rw[xz];go_wp2_with fail;refine(gn 9007199254740992 1 _ _ HN6.out (by decide) (by decide)).mono ?_;rintro ev w8 ⟨v8,rfl,hN8,hb8⟩;obtain⟨ao8,la8,ca8,rfl,HL8⟩:=hN8.slice2;have HN8:=hid hN8;obtain⟨l00,l01,l02,l03,l04,l05⟩:=aB (aa HK6.out hb8);have HB8:=hid (HB6.out.trans (hb8.mono HB6.out.size));clear hb8 hN8 i00 i01 i02 i03 i04 i05;go_wp2_with fail;refine(cv _ 4503599627370496 (e+(K:Int)+1) _ _ HN8.out (by decide) (by decide) (by omega) (by omega)).mono ?_;rintro ev w9 ⟨rfl,hb9⟩;have HB9:=hid hb9;clear hb9;go_wp2;go_ret2;exact gP FIN2.out HB8.out HB9.out
    ·have FIN2:=hid (HZ2.out UP.out hq);have q1:Hid (n / 2^K+1<9007199254740992):=by show _<_;have:=HLB.out.2;omega
     have q2:Hid (4503599627370496≤n / 2^K+1):=by show _≤_;have:=HLB.out.1;omega
     have hlq:=eG (n / 2^K+1);rw[eB q2.out q1.out] at hlq;clear hq;refine(ck (n / 2^K+1) _ _ HN6.out (by omega)).mono ?_;clear hlq;rintro ev w7 ⟨rfl,rfl⟩;rw[eB q2.out q1.out];go_wp2_with fail;refine(cv _ (n / 2^K+1) (e+(K:Int)) _ _ HN6.out q2.out q1.out (by omega) (by omega)).mono ?_;rintro ev w9 ⟨rfl,hb9⟩;have HB9:=hid hb9;clear hb9;go_wp2;go_ret2;exact gP FIN2.out HB6.out HB9.out
   ·obtain⟨qb',qo',ql',qc',hqe,hq0,hqc⟩:=oD HQ4.out (by have:=HLB.out.1;omega)
    cases hqe
    have hq0':(0:Int)<(ql:Int):=by omega
    have hand:=uy (n / 2^K % 16777216) (by omega);rw[show n / 2^K % 16777216 % 2=n / 2^K % 2 by omega] at hand;generalize n / 2^K % 16777216=dq at*;rcases(show n / 2^K % 2=0∨n / 2^K % 2=1 by omega) with hp|hp
    ·rw[hp] at hand
     have UP:Hid (zup n=false):=by
      show _=_
      rw[HZV.out,hlw,hp];rfl
     have hand0:=hand;clear hp hand HZV hlw;go_wp2_with fail;have FIN2:=hid (HZ3.out UP.out);refine(ck _ _ _ HQ4.out (by have:=HLQ.out;omega)).mono ?_;rintro ev w7 ⟨rfl,rfl⟩;rw[HS2.out];go_wp2_with fail;refine(cv _ (n / 2^K) (e+(K:Int)) _ _ HQ4.out HLB.out.1 HLB.out.2 (by omega) (by omega)).mono ?_;rintro ev w9 ⟨rfl,hb9⟩;have HB9:=hid hb9;clear hb9;go_wp2;go_ret2;exact gP FIN2.out HB4.out HB9.out
    ·rw[hp] at hand
     have UP:Hid (zup n=true):=by
      show _=_
      rw[HZV.out,hlw,hp];rfl
     have hand0:=hand;clear hp hand HZV hlw;go_wp2_with fail;refine(dG 1 _ (by omega)).mono ?_;rintro ev w5 ⟨v5,rfl,hN5,hb5⟩;obtain⟨ao5,la5,ca5,rfl,HL5⟩:=hN5.slice2;have HN5:=hid hN5;have HQ5:=hid (HQ4.out.below hb5 ae);have HK5:=hid (aa HK4.out hb5);have HB5:=hid (HB4.out.trans (hb5.mono HB4.out.size));clear hb5 hN5 HQ4 HK4 HB4;go_wp2_with fail;refine(fk (n / 2^K) 1 _ _ _ HQ5.out HN5.out (by have:=HLQ.out;omega) (by decide)).mono ?_;rintro ev w6 ⟨v6,rfl,hN6,hb6⟩;obtain⟨ao6,la6,ca6,rfl,HL6⟩:=hN6.slice2;have HN6:=hid hN6;have HK6:=hid (aa HK5.out hb6);have HB6:=hid (HB5.out.trans (hb6.mono HB5.out.size));obtain⟨i00,i01,i02,i03,i04,i05⟩:=aB HK6.out;clear hb6 hN6 HQ5 HK5 HB5 HN5;go_wp2_with fail;by_cases hq:n / 2^K+1=9007199254740992
     ·have FIN2:=hid (HZ1.out UP.out hq);rw[hq] at HN6;refine(ck 9007199254740992 _ _ HN6.out (by decide)).mono ?_;rintro ev w7 ⟨rfl,rfl⟩;rw[xz];go_wp2_with fail;refine(gn 9007199254740992 1 _ _ HN6.out (by decide) (by decide)).mono ?_;rintro ev w8 ⟨v8,rfl,hN8,hb8⟩;obtain⟨ao8,la8,ca8,rfl,HL8⟩:=hN8.slice2;have HN8:=hid hN8;obtain⟨l00,l01,l02,l03,l04,l05⟩:=aB (aa HK6.out hb8);have HB8:=hid (HB6.out.trans (hb8.mono HB6.out.size));clear hb8 hN8 i00 i01 i02 i03 i04 i05;go_wp2_with fail;refine(cv _ 4503599627370496 (e+(K:Int)+1) _ _ HN8.out (by decide) (by decide) (by omega) (by omega)).mono ?_;rintro ev w9 ⟨rfl,hb9⟩;have HB9:=hid hb9;clear hb9;go_wp2;go_ret2;exact gP FIN2.out HB8.out HB9.out
     ·have FIN2:=hid (HZ2.out UP.out hq);have q1:Hid (n / 2^K+1<9007199254740992):=by show _<_;have:=HLB.out.2;omega
      have q2:Hid (4503599627370496≤n / 2^K+1):=by show _≤_;have:=HLB.out.1;omega
      have hlq:=eG (n / 2^K+1);rw[eB q2.out q1.out] at hlq;clear hq;refine(ck (n / 2^K+1) _ _ HN6.out (by omega)).mono ?_;clear hlq;rintro ev w7 ⟨rfl,rfl⟩;rw[eB q2.out q1.out];go_wp2_with fail;refine(cv _ (n / 2^K+1) (e+(K:Int)) _ _ HN6.out q2.out q1.out (by omega) (by omega)).mono ?_;rintro ev w9 ⟨rfl,hb9⟩;have HB9:=hid hb9;clear hb9;go_wp2;go_ret2;exact gP FIN2.out HB6.out HB9.out
theorem rT (x:Value) (s:Bool) (n:Nat) (e:Int) (w:World) (hx:aM w x s n e) (hn:bl n≤100000) (he1:-200000≤e) (he2:e≤200000):
  ax 115 #[x,iV 0] w fun ev w'=>kP s n e w ev w':=by
 by_cases h:bl n≤53
 ·refine(qm x s n e 0 w hx h he1 he2).mono ?_;rintro ev w' ⟨h1,h2⟩
  have e1:cS s n e=roundN s n e 0:=by
   unfold cS roundN fX;by_cases h0:n=0
   ·rw[if_pos h0,if_pos h0]
   ·rw[if_neg h0,if_neg h0,if_pos h,if_pos h]
  unfold kP;rw[e1];exact⟨h1,h2⟩
 ·exact yv x s n e w hx (by omega) hn he1 he2
theorem Fo {n:Nat} (h:53<bl n):zup n=nup n:=by
 unfold zup nup;rw[decide_eq_true h,Bool.true_and];have hK:bl n-53=(bl n-54)+1:=by omega
 rw[hK];generalize bl n-54=j;have hp:=Nat.two_pow_pos j;have e1:n % 2^(j+1)=n % 2^j+2^j*(n / 2^j % 2):=Nat.mod_pow_succ;have hl:=Nat.mod_lt n hp;rw[e1,Nat.pow_succ];generalize n % 2^j=r at*;generalize n /(2^j*2) % 2=q;rcases(show n / 2^j % 2=0∨n / 2^j % 2=1 by omega) with hb|hb
 ·rw[hb];clear e1 hb hK h;generalize 2^j=g at*;rw[Bool.eq_iff_iff];simp only[Bool.and_eq_true,Bool.or_eq_true,decide_eq_true_eq,beq_iff_eq,Bool.not_eq_true',decide_eq_false_iff_not];omega
 ·rw[hb];clear e1 hb hK h;generalize 2^j=g at*;rw[Bool.eq_iff_iff];simp only[Bool.and_eq_true,Bool.or_eq_true,decide_eq_true_eq,beq_iff_eq,Bool.not_eq_true',decide_eq_false_iff_not];have e2:(g*2<2*(r+g*1))↔r≠0:=by omega
  have e3:(g*2=2*(r+g*1))↔r=0:=by omega
  rw[e2,e3];by_cases hr:r=0
  ·simp[hr]
  ·simp[hr]
theorem qr (s:Bool) {n:Nat} (e:Int) (h0:n≠0):cS s n e=jp s (rung n e+if nup n then 1 else 0):=by
 unfold cS;rw[if_neg h0];by_cases hb:bl n≤53
 ·rw[if_pos hb];have hn:=ie (b8 hb);have hs:=jm (Nat.pos_of_ne_zero h0) hb;rw[hn,hU s hs.1 hs.2];unfold rung mf;rw[if_pos hb]
  congr 1
  simp only[Bool.false_eq_true,if_false,Int.add_zero]
  congr 1
  congr 1
  omega
 ·rw[if_neg hb,Fo (by omega)];have hl:=iE (show 53<bl n by omega);have hm:mf n=n / 2^(bl n-53):=by unfold mf;rw[if_neg hb]
  cases hu:nup n
  ·rw[if_neg Bool.false_ne_true,hU s hl.1 hl.2];unfold rung;rw[hm,if_neg Bool.false_ne_true]
   congr 1
   generalize n / 2^(bl n-53)=q at*;omega
  ·rw[if_pos rfl,if_pos rfl];by_cases hq:n / 2^(bl n-53)+1=9007199254740992
   ·rw[if_pos hq,hU s (by omega) (by omega)];unfold rung;rw[hm]
    congr 1
    generalize n / 2^(bl n-53)=q at*;omega
   ·rw[if_neg hq,hU s (by omega) (by omega)];unfold rung;rw[hm]
    congr 1
    generalize n / 2^(bl n-53)=q at*;omega
end
end Go.Proofs.YtonhpkigoplmaaaGreatDoor
