import Derived.Test.YtonhpkigoplmaaaGreatDoorZ07
set_option maxRecDepth 100000
set_option maxHeartbeats 40000000
namespace Go.Proofs.YtonhpkigoplmaaaGreatDoor
section
open Go.RowKit
theorem iL (w:World) (a b:Bool):(binOp .neq 4 (.bool a) (.bool b)).run Tryz.prog w= .ok (.bool (a !=b)) w:=by
 cases a<;>cases b<;>kernel_rfl
theorem ym (xa xb:Value) (sa sb:Bool) (na nb:Nat) (ea eb:Int) (w:World) (ha:aM w xa sa na ea) (hb:aM w xb sb nb eb)
  (hla:(digits na).length≤400000) (hlb:(digits nb).length≤400000) (he1:-400000≤ea) (he2:ea≤400000) (he3:-400000≤eb) (he4:eb≤400000):
  ax 67 #[xa,xb] w fun ev w'=>∃x,ev= .returned x∧aM w' x ((sa !=sb) && decide (na*nb≠0)) (na*nb) (ea+eb)∧Below w.heap.size w w':=by
 obtain⟨ao,la,ca,rfl,hl1,hNa⟩:=ha;obtain⟨bo,lb,cb,rfl,hl2,hNb⟩:=hb;clear hl1 hl2;have hq:=iL;go_enter Tryz.func67,Tryz.ntmps67;go_wp2_with fail;have B0:=ai (ai (af w (.cells #[.bool sa,.slice ao la ca,iV ea] 92)) (.cells #[.bool sb,.slice bo lb cb,iV eb] 92)) (.cells #[.bool false,.slice none 0 0,iV 0] 92);have B1:=ai (af (w.alloc (.cells #[.bool sa,.slice ao la ca,iV ea] 92)) (.cells #[.bool sb,.slice bo lb cb,iV eb] 92)) (.cells #[.bool false,.slice none 0 0,iV 0] 92);have B2:=af ((w.alloc (.cells #[.bool sa,.slice ao la ca,iV ea] 92)).alloc (.cells #[.bool sb,.slice bo lb cb,iV eb] 92)) (.cells #[.bool false,.slice none 0 0,iV 0] 92);have hW:Below w.heap.size w (((w.alloc (.cells #[.bool sa,.slice ao la ca,iV ea] 92)).alloc (.cells #[.bool sb,.slice bo lb cb,iV eb] 92)).alloc (.cells #[.bool false,.slice none 0 0,iV 0] 92)):=(aJ.alloc (by simp) _).alloc (by simp;omega) _;simp only[World.size_alloc] at B1 B2;generalize(((w.alloc (.cells #[.bool sa,.slice ao la ca,iV ea] 92)).alloc (.cells #[.bool sb,.slice bo lb cb,iV eb] 92)).alloc (.cells #[.bool false,.slice none 0 0,iV 0] 92))=W2 at*;refine(lP na nb _ _ _ (hNa.below hW ae) (hNb.below hW ae) (by omega) (by omega)).mono ?_;rintro e w3 ⟨v,rfl,hv,hb3⟩;obtain⟨vo,vl,vc,rfl,hvl⟩:=hv.slice2;have hbA:=hW.trans (hb3.mono hW.size);have HB2:=hid (aa B2 hb3);obtain⟨k00,k01,k02,-,-,-⟩:=aB (aa B0 hb3);obtain⟨k10,k11,k12,-,-,-⟩:=aB (aa B1 hb3);obtain⟨k20,k21,k22,k23,k24,k25⟩:=aB HB2.out
 have fin:Hid (∀b:Bool,b=((sa !=sb) && decide (na*nb≠0))→∃x,Ending.returned (.agg #[.bool b,.slice vo vl vc,iV (ea+eb)])= .returned x∧aM (((w3.setCell ⟨w.heap.size+1+1,0,none⟩ (.bool b)).setCell ⟨w.heap.size+1+1,1,none⟩ (.slice vo vl vc)).setCell ⟨w.heap.size+1+1,2,none⟩ (iV (ea+eb))) x ((sa !=sb) && decide (na*nb≠0)) (na*nb) (ea+eb)∧Below w.heap.size w (((w3.setCell ⟨w.heap.size+1+1,0,none⟩ (.bool b)).setCell ⟨w.heap.size+1+1,1,none⟩ (.slice vo vl vc)).setCell ⟨w.heap.size+1+1,2,none⟩ (iV (ea+eb)))):=by
  intro b hb;have hbx:=aZ.of HB2.out;have K:aU w3 (((w3.setCell ⟨w.heap.size+1+1,0,none⟩ (.bool b)).setCell ⟨w.heap.size+1+1,1,none⟩ (.slice vo vl vc)).setCell ⟨w.heap.size+1+1,2,none⟩ (iV (ea+eb))):=(((aU.refl w3).set hbx (by decide)).set hbx.set (by decide)).set hbx.set.set (by decide);refine⟨_,rfl,?_,((hbA.setCell (by simp;omega) _).setCell (by simp;omega) _).setCell (by simp;omega) _⟩;rw[←hb];exact⟨_,_,_,rfl,hvl.out,hv.keeps K⟩
 have hz:(0<vl)=(na*nb≠0):=by
  have h1:=hvl.out;have h2:=dA (na*nb);apply propext;omega
 clear B0 B1 B2 hb3 hW hbA hNa hNb hv HB2 hla hlb;by_cases hs:sa=sb
 ·have q:∀w,(binOp .neq 4 (.bool sa) (.bool sb)).run Tryz.prog w= .ok (.bool false) w:=by
   intro w;rw[iL,hs,bne_self_eq_false]
  have HE:Hid (false=((sa !=sb) && decide (na*nb≠0))):=by show _=_;rw[hs,bne_self_eq_false,Bool.false_and]
  clear hq hs hz;go_wp2_with fail;refine bodyPost_ret (v:= .agg #[.bool false,.slice vo vl vc,iV (ea+eb)]) (by simp[results,Tryz.results67,go_sem,k20,k21,k22]) rfl ?_;exact fin.out false HE.out
 ·have q:∀w,(binOp .neq 4 (.bool sa) (.bool sb)).run Tryz.prog w= .ok (.bool true) w:=by
   intro w;rw[iL,(bne_iff_ne).2 hs]
  by_cases h0:0<vl
  ·have HE:Hid (true=((sa !=sb) && decide (na*nb≠0))):=by
    show _=_
    rw[hz] at h0;rw[(bne_iff_ne).2 hs,decide_eq_true h0];rfl
   clear hq hs hz;go_wp2_with fail;refine bodyPost_ret (v:= .agg #[.bool true,.slice vo vl vc,iV (ea+eb)]) (by simp[results,Tryz.results67,go_sem,k20,k21,k22]) rfl ?_;exact fin.out true HE.out
  ·have HE:Hid (false=((sa !=sb) && decide (na*nb≠0))):=by
    show _=_
    rw[hz] at h0;rw[decide_eq_false h0,Bool.and_false]
   have h1:vl=0:=by omega
   clear hq hs hz h0;subst h1;go_wp2_with fail;refine bodyPost_ret (v:= .agg #[.bool false,.slice vo 0 vc,iV (ea+eb)]) (by simp[results,Tryz.results67,go_sem,k20,k21,k22]) rfl ?_;exact fin.out false HE.out
def mkN (q:Nat) (whole:Bool):Nat:=q*2^1+(if whole then 0 else 1)
theorem nS (s:Bool) (q:Nat) (e:Int) (whole:Bool) (v:Value) (w:World) (hv:aq w v q) (hl:(digits q).length≤400000) (he1:-400000≤e) (he2:e≤400000):
  ax 125 #[.bool s,v,iV e,.bool whole] w fun ev w'=>∃x,ev= .returned x∧aM w' x (s && decide (mkN q whole≠0)) (mkN q whole) (e-1)∧Below w.heap.size w w':=by
 have he3:-9223372036854775808≤e-1:=by omega
 have he4:e-1<9223372036854775808:=by omega
 go_enter Tryz.func125,Tryz.ntmps125;go_wp2_with fail;have B2:=af w (.cells #[.bool false,.slice none 0 0,iV 0] 92);have hW:Below w.heap.size w (w.alloc (.cells #[.bool false,.slice none 0 0,iV 0] 92)):=aK.alloc ae _;generalize(w.alloc (.cells #[.bool false,.slice none 0 0,iV 0] 92))=W2 at*;refine(iu q 1 _ _ (hv.below hW ae) (by omega) (by omega)).mono ?_;rintro ev w1 ⟨u,rfl,hu,hb1⟩;have hW1:=hW.trans (hb1.mono hW.size);have B21:=aa B2 hb1;have hlu:(digits (q*2^1)).length≤500000:=Nat.le_trans dQ (by omega);clear hb1 B2 hW hv
 cases whole
 ·go_wp2_with fail;refine(dG 1 w1 (by omega)).mono ?_;rintro ev w2 ⟨o,rfl,ho,hb2⟩;have hW2:=hW1.trans (hb2.mono hW1.size);have B22:=aa B21 hb2;go_wp2_with fail;refine(fk (q*2^1) 1 _ _ w2 (hu.below hb2 ae) ho (by omega) (by decide)).mono ?_;rintro ev w3 ⟨v3,rfl,hv3,hb3⟩;have hbA:=hW2.trans (hb3.mono hW2.size);have HB2:=hid (aa B22 hb3);clear hb2 hb3 hW2 hW1 B21 B22 hu ho;obtain⟨vo,vl,vc,rfl,hvl⟩:=hv3.slice2;have hn:mkN q false=q*2^1+1:=rfl;rw[←hn] at hv3 hvl
  have fin:Hid (∀b:Bool,b=(s && decide (mkN q false≠0))→∃x,Ending.returned (.agg #[.bool b,.slice vo vl vc,iV (e-1)])= .returned x∧aM (((w3.setCell ⟨w.heap.size,0,none⟩ (.bool b)).setCell ⟨w.heap.size,1,none⟩ (.slice vo vl vc)).setCell ⟨w.heap.size,2,none⟩ (iV (e-1))) x (s && decide (mkN q false≠0)) (mkN q false) (e-1)∧Below w.heap.size w (((w3.setCell ⟨w.heap.size,0,none⟩ (.bool b)).setCell ⟨w.heap.size,1,none⟩ (.slice vo vl vc)).setCell ⟨w.heap.size,2,none⟩ (iV (e-1)))):=by
   intro b hb;have hbx:=aZ.of HB2.out;have K:aU w3 (((w3.setCell ⟨w.heap.size,0,none⟩ (.bool b)).setCell ⟨w.heap.size,1,none⟩ (.slice vo vl vc)).setCell ⟨w.heap.size,2,none⟩ (iV (e-1))):=(((aU.refl w3).set hbx (by decide)).set hbx.set (by decide)).set hbx.set.set (by decide);refine⟨_,rfl,?_,((hbA.setCell (by simp) _).setCell (by simp) _).setCell (by simp) _⟩;rw[←hb];exact⟨_,_,_,rfl,hvl.out,hv3.keeps K⟩
  have hz:(0<vl)=(mkN q false≠0):=by
   have h1:=hvl.out;have h2:=dA (mkN q false);apply propext;omega
  obtain⟨k0,k1,k2,k3,k4,k5⟩:=aB HB2.out;clear hbA hv3 HB2
  cases s
  ·go_wp2_with fail;refine bodyPost_ret (v:= .agg #[.bool false,.slice vo vl vc,iV (e-1)]) (by simp[results,Tryz.results125,go_sem,k0,k1,k2]) rfl ?_;exact fin.out false (by rw[Bool.false_and])
  ·by_cases h0:0<vl
   ·have HE:Hid (true=(true && decide (mkN q false≠0))):=by
     show _=_
     rw[hz] at h0;rw[decide_eq_true h0];rfl
    clear hz;go_wp2_with fail;refine bodyPost_ret (v:= .agg #[.bool true,.slice vo vl vc,iV (e-1)]) (by simp[results,Tryz.results125,go_sem,k0,k1,k2]) rfl ?_;exact fin.out true HE.out
   ·have HE:Hid (false=(true && decide (mkN q false≠0))):=by
     show _=_
     rw[hz] at h0;rw[decide_eq_false h0];rfl
    have h1:vl=0:=by omega
    clear hz h0;subst h1;go_wp2_with fail;refine bodyPost_ret (v:= .agg #[.bool false,.slice vo 0 vc,iV (e-1)]) (by simp[results,Tryz.results125,go_sem,k0,k1,k2]) rfl ?_;exact fin.out false HE.out
 ·have hbA:=hW1;have HB2:=hid B21;have hn:mkN q true=q*2^1:=rfl;rw[←hn] at hu;clear hW1 B21;obtain⟨vo,vl,vc,rfl,hvl⟩:=hu.slice2;have hv3:=hu;clear hu
  have fin:Hid (∀b:Bool,b=(s && decide (mkN q true≠0))→∃x,Ending.returned (.agg #[.bool b,.slice vo vl vc,iV (e-1)])= .returned x∧aM (((w1.setCell ⟨w.heap.size,0,none⟩ (.bool b)).setCell ⟨w.heap.size,1,none⟩ (.slice vo vl vc)).setCell ⟨w.heap.size,2,none⟩ (iV (e-1))) x (s && decide (mkN q true≠0)) (mkN q true) (e-1)∧Below w.heap.size w (((w1.setCell ⟨w.heap.size,0,none⟩ (.bool b)).setCell ⟨w.heap.size,1,none⟩ (.slice vo vl vc)).setCell ⟨w.heap.size,2,none⟩ (iV (e-1)))):=by
   intro b hb;have hbx:=aZ.of HB2.out;have K:aU w1 (((w1.setCell ⟨w.heap.size,0,none⟩ (.bool b)).setCell ⟨w.heap.size,1,none⟩ (.slice vo vl vc)).setCell ⟨w.heap.size,2,none⟩ (iV (e-1))):=(((aU.refl w1).set hbx (by decide)).set hbx.set (by decide)).set hbx.set.set (by decide);refine⟨_,rfl,?_,((hbA.setCell (by simp) _).setCell (by simp) _).setCell (by simp) _⟩;rw[←hb];exact⟨_,_,_,rfl,hvl.out,hv3.keeps K⟩
  have hz:(0<vl)=(mkN q true≠0):=by
   have h1:=hvl.out;have h2:=dA (mkN q true);apply propext;omega
  obtain⟨k0,k1,k2,k3,k4,k5⟩:=aB HB2.out;clear hbA hv3 HB2
  cases s
  ·go_wp2_with fail;refine bodyPost_ret (v:= .agg #[.bool false,.slice vo vl vc,iV (e-1)]) (by simp[results,Tryz.results125,go_sem,k0,k1,k2]) rfl ?_;exact fin.out false (by rw[Bool.false_and])
  ·by_cases h0:0<vl
   ·have HE:Hid (true=(true && decide (mkN q true≠0))):=by
     show _=_
     rw[hz] at h0;rw[decide_eq_true h0];rfl
    clear hz;go_wp2_with fail;refine bodyPost_ret (v:= .agg #[.bool true,.slice vo vl vc,iV (e-1)]) (by simp[results,Tryz.results125,go_sem,k0,k1,k2]) rfl ?_;exact fin.out true HE.out
   ·have HE:Hid (false=(true && decide (mkN q true≠0))):=by
     show _=_
     rw[hz] at h0;rw[decide_eq_false h0];rfl
    have h1:vl=0:=by omega
    clear hz h0;subst h1;go_wp2_with fail;refine bodyPost_ret (v:= .agg #[.bool false,.slice vo 0 vc,iV (e-1)]) (by simp[results,Tryz.results125,go_sem,k0,k1,k2]) rfl ?_;exact fin.out false HE.out
theorem uf:∀(j:Nat) (l:List Nat),(∀d∈l,d<16777216)→l.getD j 0=nval l / 16777216^j % 16777216
 |j,[],_=>by simp[nval]
 |0,d::r,h=>by
  have:=h d (by simp);simp[nval];omega
 |j+1,d::r,h=>by
  have hd:=h d (by simp);rw[List.getD_cons_succ,uf j r (fun x hx=>h x (by simp[hx])),Nat.pow_succ,Nat.mul_comm (16777216^j),←Nat.div_div_eq_div_mul]
  congr 2
  simp only[nval];omega
theorem yz (j n:Nat):(digits n).getD j 0=n / 16777216^j % 16777216:=by
 have:=uf j (digits n) (eZ n);rwa [bB] at this
theorem GR (n i:Nat):(digits n).getD (i / 24) 0 / 2^(i % 24) % 2=n / 2^i % 2:=by
 rw[yz];have e:(16777216:Nat)^(i / 24)=2^(24*(i / 24)):=by rw[Nat.pow_mul]
 have e2:(16777216:Nat)=2^(i % 24)*2^(24-i % 24):=by rw[←Nat.pow_add,show i % 24+(24-i % 24)=24 by omega]
 rw[e];generalize hm:n / 2^(24*(i / 24))=m
 have h1:m % 16777216 / 2^(i % 24)=m / 2^(i % 24) % 2^(24-i % 24):=by
  rw[e2,Nat.mod_mul_right_div_self]
 have h2:m / 2^(i % 24)=n / 2^i:=by
  rw[←hm,Nat.div_div_eq_div_mul,←Nat.pow_add,show 24*(i / 24)+i % 24=i by omega]
 rw[h1,h2];have:2∣2^(24-i % 24):=⟨2^(23-i % 24),by rw[←Nat.pow_succ',show(23-i % 24).succ=24-i % 24 by omega]⟩;exact Nat.mod_mod_of_dvd _ this
theorem Ba (n k:Nat):n / 2^k=n / 2^(k+1)*2^1+n / 2^k % 2:=by
 rw[Nat.pow_succ,←Nat.div_div_eq_div_mul];omega
theorem CR {P P' b β:Nat} (hb:0<b) (hβ:β<2) (hP:P'=P*2^1+β):
  (b≤P % b*2^1+β→P' / b=P / b*2^1+1∧P' % b=P % b*2^1+β-b)∧(P % b*2^1+β<b→P' / b=P / b*2^1∧P' % b=P % b*2^1+β):=by
 have hd:=Nat.div_add_mod P b;have hl:=Nat.mod_lt P hb
 have e:P'=b*(P / b*2^1)+(P % b*2^1+β):=by
  rw[hP,←Nat.mul_assoc];omega
 constructor
 ·intro h;have e':P'=(P % b*2^1+β-b)+b*(P / b*2^1+1):=by rw[Nat.mul_add];omega
  have hlt:P % b*2^1+β-b<b:=by omega
  rw[e',Nat.add_mul_div_left _ _ hb,Nat.add_mul_mod_self_left,Nat.div_eq_of_lt hlt,Nat.mod_eq_of_lt hlt];exact⟨by omega,rfl⟩
 ·intro h;rw[e,Nat.add_comm,Nat.add_mul_div_left _ _ hb,Nat.add_mul_mod_self_left,Nat.div_eq_of_lt h,Nat.mod_eq_of_lt h];exact⟨by omega,rfl⟩
theorem iP {n m:Nat} (h:n≤m):(digits n).length≤(digits m).length:=dO (Nat.lt_of_le_of_lt h (dL m))
theorem vI (n:Nat):bl n≤24*(digits n).length:=by
 apply bQ;rw[Nat.pow_mul];exact dL n
theorem DW (n:Int):bits .and .i64 n 1=n % 2:=by
 have h1:(BitVec.ofInt 64 1).toNat=2^1-1:=by decide
 have key:(BitVec.ofInt 64 n &&& BitVec.ofInt 64 1).toNat=(n %((2^64:Nat):Int)).toNat % 2^1:=by
  rw[BitVec.toNat_and,BitVec.toNat_ofInt,h1,Nat.and_two_pow_sub_one_eq_mod]
 show IntKind.i64.wrap ((BitVec.ofInt 64 n &&& BitVec.ofInt 64 1).toNat:Nat)=n % 2
 rw[key,IntKind.wrap_i64];omega
theorem Ez (a b:Nat) (va vb:Value) (w:World) (ha:aq w va a) (hb:aq w vb b) (hb0:0<b) (hla:(digits a).length≤400000) (hlb:(digits b).length≤400000):
  ax 165 #[va,vb] w fun ev w'=>∃v,ev= .returned (.tuple #[v,.bool (decide (a % b=0))])∧aq w' v (a / b)∧Below w.heap.size w w':=by
 have HA:Hid (aq w va a):=ha;have HB:Hid (aq w vb b):=hb;obtain⟨ao,cap,rfl,hcap,HC'⟩:=Dig.open ha;have HC:Hid ((digits a).length=0∨∃b off,ao=some ⟨b,off,none⟩∧b<w.heap.size∧∀i,i<(digits a).length→w.cell? ⟨b,off+i,none⟩=some (iV ((digits a).getD i 0:Nat))):=HC';have hbl:=vI a;have hbw:wrap64 ((bl a:Int)-1)=(bl a:Int)-1:=by unfold wrap64;omega
 have HL:Hid ((digits a).length≤400000):=hla;have HLB:Hid ((digits b).length≤400000):=hlb;have HB0:Hid (0<b):=hb0;have HBL:Hid (bl a≤24*(digits a).length):=hbl;clear ha hb HC' hla hlb hb0 hbl;go_enter Tryz.func165,Tryz.ntmps165;go_wp2_with fail;refine(ck a _ w HA.out (by have:=HL.out;omega)).mono ?_;rintro ev w1 ⟨rfl,rfl⟩;go_wp2_with fail;rw[hbw]
 go_loopw [8,6,7] (fun x vq vr wr=>∃k:Nat,k≤bl a∧x=iV ((k:Int)-1)∧aq wr vq (a / 2^k / b)∧aq wr vr (a / 2^k % b)∧Below w1.heap.size w1 wr) (fun x _ _ _=>(intOf x+1).toNat)
 case atStart=>
  have h0:a / 2^bl a=0:=by
   rcases Nat.eq_zero_or_pos a with h|h
   ·subst h;simp
   ·exact Nat.div_eq_of_lt (bt h).2.1
  exact⟨bl a,Nat.le_refl _,rfl,by rw[h0,Nat.zero_div];exact aq.zero _,by rw[h0,Nat.zero_mod];exact aq.zero _,Below.refl _ _⟩
 case round=>
  obtain⟨k,hk,rfl,hq,hr,hbr⟩:=hrel;by_cases hk0:k=0
  ·subst hk0;rw[Nat.pow_zero,Nat.div_one] at hq hr;obtain⟨qo,ql,qc,rfl,hql⟩:=hq.slice2;obtain⟨ro,rl,rc,rfl,hrl⟩:=hr.slice2
   have hz:decide ((rl:Int)=0)=decide (a % b=0):=by
    have h1:=hrl.out;have h2:=dA (a % b);apply decide_eq_decide.2;omega
   have HQ:Hid (aq wr (.slice qo ql qc) (a / b)):=hq;have HR:Hid (Below w1.heap.size w1 wr):=hbr
   have HZ:Hid (((rl:Int)==0)=decide (a % b=0)):=by
    show _=_
    rw[←hz,Bool.eq_iff_iff,beq_iff_eq,decide_eq_true_eq]
   clear hq hr hbr hz hrl hql;go_wp2_with fail;refine bodyPost_ret (v:= .tuple #[.slice qo ql qc,.bool ((rl:Int)==0)]) (by simp[results,Tryz.results165,go_sem]) rfl ?_;exact⟨_,by rw[HZ.out],HQ.out,HR.out⟩
  ·obtain⟨j,rfl⟩:∃j,k=j+1:=⟨k-1,by omega⟩;have hj:j / 24<(digits a).length:=by have:=HBL.out;omega
   have hjb0:j≤10000000:=by have:=HL.out;have:=HBL.out;omega
   obtain⟨g,off,rfl,hg,hc⟩:=HC.out.resolve_left (by omega);have c1:=(hbr.cell (p:=⟨g,off+j / 24,none⟩) hg).trans (hc (j / 24) hj);have hbit:=GR a j;have hdl:(digits a).getD (j / 24) 0<16777216:=cI (eZ a) _;have hji:((j+1:Nat):Int)-1=(j:Int):=by omega
   rw[hji];generalize(digits a).getD (j / 24) 0=d at*
   have hbv:bits .and .i64 ((d:Int) / 2^(j % 24)) 1=((a / 2^j % 2:Nat):Int):=by
    rw[DW,←hbit];have e:(2:Int)^(j % 24)=((2^(j % 24):Nat):Int):=by rw[Int.natCast_pow];rfl
    rw[e];generalize 2^(j % 24)=g;omega
   have HSt:=CR (P:=a / 2^(j+1)) (P':=a / 2^j) (β:=a / 2^j % 2) HB0.out (by omega) (Ba a j);have hP:a / 2^(j+1)≤a:=Nat.div_le_self _ _;have lr:(digits (a / 2^(j+1) % b)).length≤400000:=Nat.le_trans (iP (Nat.le_of_lt (Nat.mod_lt _ HB0.out))) HLB.out;have lq:(digits (a / 2^(j+1) / b)).length≤400000:=Nat.le_trans (iP (Nat.le_trans (Nat.div_le_self _ _) hP)) HL.out;have hβ:a / 2^j % 2<2:=Nat.mod_lt _ (by decide);have HSt':Hid ((b≤a / 2^(j+1) % b*2^1+a / 2^j % 2→a / 2^j / b=a / 2^(j+1) / b*2^1+1∧a / 2^j % b=a / 2^(j+1) % b*2^1+a / 2^j % 2-b)∧(a / 2^(j+1) % b*2^1+a / 2^j % 2<b→a / 2^j / b=a / 2^(j+1) / b*2^1∧a / 2^j % b=a / 2^(j+1) % b*2^1+a / 2^j % 2)):=HSt;clear HSt hP hbit hdl hji;generalize a / 2^j % 2=β at*;generalize a / 2^(j+1) % b=R at*;generalize a / 2^(j+1) / b=Q at*;have lr1:(digits (R*2^1)).length≤500000:=Nat.le_trans dQ (by omega);have lq1:(digits (Q*2^1)).length≤500000:=Nat.le_trans dQ (by omega);have lβ:(digits β).length≤1:=dO (by omega);have l1:(digits 1).length≤1:=dO (by omega)
   have lr2:(digits (R*2^1+β)).length≤600000:=by
    refine Nat.le_trans (iP (m:=R*2^2+1) ?_) ?_
    ·omega
    ·have:=dO (n:=R*2^2+1) (k:=(digits R).length+1) (by
      have h1:=dL R;rw[Nat.pow_succ 16777216];generalize 16777216^(digits R).length=g at h1⊢;omega)
     exact Nat.le_trans this (by omega)
   go_wp2_with fail
   try rw[hbv]
   clear c1 hbv;refine(iu R 1 _ _ hr (by omega) (by omega)).mono ?_;rintro ev w2 ⟨r1,rfl,hr1,hb1⟩;have hB1:Below w1.heap.size w1 w2:=hbr.trans (hb1.mono hbr.size);have hq1:=hq.below hb1 ae;clear hb1 hbr hq hr;go_wp2_with fail;refine(dG β w2 (by omega)).mono ?_;rintro ev w3 ⟨o,rfl,ho,hb2⟩;have hB2:Below w1.heap.size w1 w3:=hB1.trans (hb2.mono hB1.size);have hq2:=hq1.below hb2 ae;have hr2:=hr1.below hb2 ae;clear hb2 hB1 hq1 hr1;go_wp2_with fail;refine(fk (R*2^1) β _ _ w3 hr2 ho (by omega) (by omega)).mono ?_;rintro ev w4 ⟨r3,rfl,hr3,hb3⟩;have hB3:Below w1.heap.size w1 w4:=hB2.trans (hb3.mono hB2.size);have hq3:=hq2.below hb3 ae;clear hb3 hB2 hq2 hr2 ho;go_wp2_with fail;refine(iu Q 1 _ w4 hq3 (by omega) (by omega)).mono ?_;rintro ev w5 ⟨q4,rfl,hq4,hb4⟩;have hB4:Below w1.heap.size w1 w5:=hB3.trans (hb4.mono hB3.size);have hr4:=hr3.below hb4 ae;clear hb4 hB3 hq3 hr3;go_wp2_with fail;refine(pG (R*2^1+β) b _ _ w5 hr4 (HB.out.below hB4 ae) (by omega) (by have:=HLB.out;omega)).mono ?_;rintro ev w6 ⟨rfl,hb5⟩;have hB5:Below w1.heap.size w1 w6:=hB4.trans (hb5.mono hB4.size);have hr5:=hr4.below hb5 ae;have hq5:=hq4.below hb5 ae;clear hb5 hB4 hr4 hq4;by_cases hc:b≤R*2^1+β
   ·have hcm:0≤cmpI (R*2^1+β) b:=by unfold cmpI;rw[if_neg (by omega)];split<;>omega
    obtain⟨e1,e2⟩:=HSt'.out.1 hc;go_wp2_with fail;refine(oI (R*2^1+β) b _ _ w6 hr5 (HB.out.below hB5 ae) hc (by omega)).mono ?_;rintro ev w7 ⟨r6,rfl,hr6,hb6⟩;have hB6:Below w1.heap.size w1 w7:=hB5.trans (hb6.mono hB5.size);have hq6:=hq5.below hb6 ae;clear hb6 hB5 hq5 hr5;go_wp2_with fail;refine(dG 1 w7 (by omega)).mono ?_;rintro ev w8 ⟨o2,rfl,ho2,hb7⟩;have hB7:Below w1.heap.size w1 w8:=hB6.trans (hb7.mono hB6.size);have hq7:=hq6.below hb7 ae;have hr7:=hr6.below hb7 ae;clear hb7 hB6 hq6 hr6;go_wp2_with fail;refine(fk (Q*2^1) 1 _ _ w8 hq7 ho2 (by omega) (by omega)).mono ?_;rintro ev w9 ⟨q8,rfl,hq8,hb8⟩;have hB8:Below w1.heap.size w1 w9:=hB7.trans (hb8.mono hB7.size);have hr8:=hr7.below hb8 ae;rw[←e1] at hq8;rw[←e2] at hr8;clear hb8 hB7 hq7 hr7 ho2;go_wp2;go_roundw
    case rel=>exact⟨j,by omega,by go_num,hq8,hr8,hB8⟩
    case measure=>simp[intOf]
   ·have hcm:cmpI (R*2^1+β) b=-1:=by unfold cmpI;rw[if_pos (by omega)]
    obtain⟨e1,e2⟩:=HSt'.out.2 (by omega);rw[←e1] at hq5;rw[←e2] at hr5;go_wp2;go_roundw
    case rel=>exact⟨j,by omega,by go_num,hq5,hr5,hB5⟩
    case measure=>simp[intOf]
def jQ (sa:Bool) (na:Nat) (ea:Int) (sb:Bool) (nb:Nat) (eb:Int):ap:=
 ((sa !=sb) && decide (mkN (na*2^(60+bl nb) / nb) (decide (na*2^(60+bl nb) % nb=0))≠0),mkN (na*2^(60+bl nb) / nb) (decide (na*2^(60+bl nb) % nb=0)),ea-(60+bl nb:Nat)-eb-1)
theorem wG (xa xb:Value) (sa sb:Bool) (na nb:Nat) (ea eb:Int) (w:World) (ha:aM w xa sa na ea) (hb:aM w xb sb nb eb) (hb0:0<nb)
  (hla:(digits na).length≤1000) (hlb:(digits nb).length≤1000) (he1:-100000≤ea) (he2:ea≤100000) (he3:-100000≤eb) (he4:eb≤100000):
  ax 122 #[xa,xb] w fun ev w'=>∃x,ev= .returned x∧aM w' x (jQ sa na ea sb nb eb).1 (jQ sa na ea sb nb eb).2.1 (jQ sa na ea sb nb eb).2.2∧Below w.heap.size w w':=by
 obtain⟨ao,la,ca,rfl,hl1,hNa⟩:=ha;obtain⟨bo,lb,cb,rfl,hl2,hNb⟩:=hb;have hbl:=vI nb;have hsz:bl nb≤24000:=by omega
 have lup:(digits (na*2^(60+bl nb))).length≤400000:=Nat.le_trans dQ (by omega);have lq:(digits (na*2^(60+bl nb) / nb)).length≤400000:=Nat.le_trans (iP (Nat.div_le_self _ _)) lup;clear hl1 hl2 hbl;have hQ:jQ sa na ea sb nb eb=((sa !=sb) && decide (mkN (na*2^(60+bl nb) / nb) (decide (na*2^(60+bl nb) % nb=0))≠0),mkN (na*2^(60+bl nb) / nb) (decide (na*2^(60+bl nb) % nb=0)),ea-(60+bl nb:Nat)-eb-1):=rfl;have HQ:=hid hQ;clear hQ;have hq:=iL;go_enter Tryz.func122,Tryz.ntmps122;go_wp2_with fail;have B0:=ai (ai (af w (.cells #[.bool sa,.slice ao la ca,iV ea] 92)) (.cells #[.bool sb,.slice bo lb cb,iV eb] 92)) (.cells #[.bool false,.slice none 0 0,iV 0] 92);have B1:=ai (af (w.alloc (.cells #[.bool sa,.slice ao la ca,iV ea] 92)) (.cells #[.bool sb,.slice bo lb cb,iV eb] 92)) (.cells #[.bool false,.slice none 0 0,iV 0] 92);have B2:=af ((w.alloc (.cells #[.bool sa,.slice ao la ca,iV ea] 92)).alloc (.cells #[.bool sb,.slice bo lb cb,iV eb] 92)) (.cells #[.bool false,.slice none 0 0,iV 0] 92);have hW:Below w.heap.size w (((w.alloc (.cells #[.bool sa,.slice ao la ca,iV ea] 92)).alloc (.cells #[.bool sb,.slice bo lb cb,iV eb] 92)).alloc (.cells #[.bool false,.slice none 0 0,iV 0] 92)):=(aJ.alloc (by simp) _).alloc (by simp;omega) _;simp only[World.size_alloc] at B1 B2;generalize(((w.alloc (.cells #[.bool sa,.slice ao la ca,iV ea] 92)).alloc (.cells #[.bool sb,.slice bo lb cb,iV eb] 92)).alloc (.cells #[.bool false,.slice none 0 0,iV 0] 92))=W2 at*;have hA2:=hNa.below hW ae;have hB2:=hNb.below hW ae;obtain⟨k00,k01,k02,-,-,-⟩:=aB B0;obtain⟨k10,k11,k12,-,-,-⟩:=aB B1;refine(ck nb _ _ hB2 (by omega)).mono ?_;rintro ev w1 ⟨rfl,rfl⟩;go_wp2_with fail;have hcast:(60:Int)+(bl nb:Int)=((60+bl nb:Nat):Int):=by omega
 rw[hcast];generalize hK:60+bl nb=K at*;have hKb:K≤24060:=by omega
 clear hcast hsz hNa hNb;refine(iu na K _ _ hA2 (by omega) (by omega)).mono ?_;rintro ev w2 ⟨n,rfl,hn,hb2⟩;have hB2':=hB2.below hb2 ae;have hW2:=hW.trans (hb2.mono hW.size);have C0:=aa B0 hb2;have C1:=aa B1 hb2;have C2:=aa B2 hb2;clear hA2 hB2 hb2 hW B0 B1 B2 k00 k01 k02 k10 k11 k12;obtain⟨k00,k01,k02,-,-,-⟩:=aB C0;obtain⟨k10,k11,k12,-,-,-⟩:=aB C1;go_wp2_with fail;refine(Ez (na*2^K) nb _ _ w2 hn hB2' hb0 (by omega) (by omega)).mono ?_;rintro ev w3 ⟨q,rfl,hqv,hb3⟩;have hW3:=hW2.trans (hb3.mono hW2.size);have D0:=aa C0 hb3;have D1:=aa C1 hb3;have D2:=aa C2 hb3;clear hb3 hW2 C0 C1 C2 k00 k01 k02 k10 k11 k12 hn hB2';obtain⟨k00,k01,k02,-,-,-⟩:=aB D0;obtain⟨k10,k11,k12,-,-,-⟩:=aB D1
 have HMK:Hid (∀w3,aq w3 q (na*2^K / nb)→ax 125 #[.bool (sa !=sb),q,iV (ea-(K:Int)-eb),.bool (decide (na*2^K % nb=0))] w3 fun ev w'=>∃x,ev= .returned x∧aM w' x (jQ sa na ea sb nb eb).1 (jQ sa na ea sb nb eb).2.1 (jQ sa na ea sb nb eb).2.2∧Below w3.heap.size w3 w'):=by
  intro w3 h3;rw[HQ.out];exact nS (sa !=sb) _ _ _ q w3 h3 (by omega) (by omega) (by omega)
 have HV:=hid hqv;have HW3:=hid hW3;have HD2:=hid D2;clear hqv hW3 D0 D1 D2 lq lup hla hlb HQ hb0 hK;generalize decide (na*2^K % nb=0)=wh at*;go_wp2_with fail;refine (HMK.out _ HV.out).mono ?_;rintro ev w4 ⟨x,rfl,⟨vo,vl,vc,rfl,hvl,hvn⟩,hb4⟩;have hbA:=HW3.out.trans (hb4.mono HW3.out.size);have HB2:=hid (aa HD2.out hb4);obtain⟨k20,k21,k22,k23,k24,k25⟩:=aB HB2.out;have hbx:=aZ.of HB2.out;have HB4:=hid hbA;have HVL:=hid hvl;have HVN:=hid hvn;have HBX:=hid hbx;clear hb4 hbA hbx hvl hvn HMK HV HW3 HD2 k00 k01 k02 k10 k11 k12;go_wp2_with fail;refine bodyPost_ret (v:= .agg #[.bool (jQ sa na ea sb nb eb).1,.slice vo vl vc,iV (jQ sa na ea sb nb eb).2.2]) (by simp[results,Tryz.results122,go_sem,k20,k21,k22]) rfl ?_;have K:aU w4 (((w4.setCell ⟨w.heap.size+1+1,0,none⟩ (.bool (jQ sa na ea sb nb eb).1)).setCell ⟨w.heap.size+1+1,1,none⟩ (.slice vo vl vc)).setCell ⟨w.heap.size+1+1,2,none⟩ (iV (jQ sa na ea sb nb eb).2.2)):=(((aU.refl w4).set HBX.out (by decide)).set HBX.out.set (by decide)).set HBX.out.set.set (by decide);exact⟨_,rfl,⟨_,_,_,rfl,HVL.out,HVN.out.keeps K⟩,((HB4.out.setCell (by simp;omega) _).setCell (by simp;omega) _).setCell (by simp;omega) _⟩
def mN (n c:Nat):Prop:=c*c≤n∧n<(c+1)*(c+1)
theorem AY (a:Nat):a<2^((bl a+1) / 2+1)*2^((bl a+1) / 2+1):=by
 rw[←Nat.pow_add];rcases Nat.eq_zero_or_pos a with h|h
 ·subst h;exact Nat.two_pow_pos _
 ·exact Nat.lt_of_lt_of_le (bt h).2.1 (Nat.pow_le_pow_right (by decide) (by omega))
theorem qI {x a:Nat} (h:x*x≤a):(digits x).length≤(digits a).length:=by
 apply iP;rcases Nat.eq_zero_or_pos x with h0|h0
 ·omega
 ·exact Nat.le_trans (Nat.le_mul_of_pos_left x h0) h
theorem Fp {x y k:Nat} (hx:(digits x).length≤k) (hy:(digits y).length≤k):(digits (x+y)).length≤k+1:=by
 have h2:=dL x;have h3:=dL y;have h4:16777216^(digits x).length≤16777216^k:=Nat.pow_le_pow_right (by decide) hx;have h5:16777216^(digits y).length≤16777216^k:=Nat.pow_le_pow_right (by decide) hy;apply dO;rw[Nat.pow_succ];generalize 16777216^k=G at*;omega
theorem t7 (a:Nat) (va:Value) (w:World) (ha:aq w va a) (hla:(digits a).length≤10000):
  ax 124 #[va] w fun ev w'=>∃v c,ev= .returned (.tuple #[v,.bool (decide (c*c=a))])∧aq w' v c∧mN a c∧Below w.heap.size w w':=by
 have HA:=hid ha;have hbl:=vI a;have HL:=hid hla;have hbb:bl a≤240000:=by omega
 have HST:=AY a;have HStart:=hid HST;clear ha hla HST hbl;go_enter Tryz.func124,Tryz.ntmps124;go_wp2_with fail;refine(ck a _ w HA.out (by have:=HL.out;omega)).mono ?_;rintro ev w1 ⟨rfl,rfl⟩;go_wp2_with fail
 go_loopw [5,4] (fun v5 v4 wr=>∃k x:Nat,k≤(bl a+1) / 2+1∧v5=iV ((k:Int)-1)∧aq wr v4 x∧x*x≤a∧a<(x+2^k)*(x+2^k)∧Below w1.heap.size w1 wr) (fun v5 _ _=>(intOf v5+1).toNat)
 case atStart=>
  refine⟨(bl a+1) / 2+1,0,Nat.le_refl _,?_,aq.zero _,by omega,by rw[Nat.zero_add];exact HStart.out,Below.refl _ _⟩
  congr 1
  omega
 case round=>
  obtain⟨k,x,hk,rfl,hx,hx1,hx2,hbr⟩:=hrel;have lx:=Nat.le_trans (qI hx1) HL.out;by_cases hk0:k=0
  ·subst hk0;rw[Nat.pow_zero] at hx2;have HR:Hid (mN a x):=⟨hx1,hx2⟩;have lxx:=Nat.le_trans (iP hx1) HL.out;clear hx1 hx2 HStart;obtain⟨xo,xl,xc,rfl,hxl⟩:=hx.slice2;clear hxl;go_wp2_with fail;refine(lP x x _ _ wr hx hx (by omega) (by omega)).mono ?_;rintro ev w2 ⟨s2,rfl,hs2,hb2⟩;have hB2:=hbr.trans (hb2.mono hbr.size);have hx2:=hx.below hb2 ae;clear hb2 hbr hx;go_wp2_with fail;refine(pG (x*x) a _ _ w2 hs2 (HA.out.below hB2 ae) (by omega) (by have:=HL.out;omega)).mono ?_;rintro ev w3 ⟨rfl,hb3⟩;have HB3:=hid (hB2.trans (hb3.mono hB2.size));have HX3:=hid (hx2.below hb3 ae)
   have HC:Hid ((cmpI (x*x) a==0)=decide (x*x=a)):=by
    show _=_
    rw[Bool.eq_iff_iff,beq_iff_eq,decide_eq_true_eq];unfold cmpI;split
    ·omega
    ·split<;>omega
   clear hb3 hB2 hx2 hs2;go_wp2_with fail;refine bodyPost_ret (v:= .tuple #[.slice xo xl xc,.bool (cmpI (x*x) a==0)]) (by simp[results,Tryz.results124,go_sem]) rfl ?_;exact⟨_,x,by rw[HC.out],HX3.out,HR.out,HB3.out⟩
  ·obtain⟨j,rfl⟩:∃j,k=j+1:=⟨k-1,by omega⟩;have hji:((j+1:Nat):Int)-1=(j:Int):=by omega
   rw[hji];have hjb:j≤200000:=by omega
   have ly:(digits (x+1*2^j)).length≤30000:=by
    have h1:(digits (1*2^j)).length≤10002:=by
     rw[Nat.one_mul];have:=jh (n:=2^j) (k:=j+1) (Nat.pow_lt_pow_right (by decide) (by omega));omega
    exact Nat.le_trans (Fp (k:=10002) (by omega) h1) (by omega)
   have l1:(digits 1).length≤1:=dO (by omega);have l2:=Nat.le_trans (iP (Nat.le_add_left _ _)) ly
   have lyy:(digits ((x+1*2^j)*(x+1*2^j))).length≤100000:=by
    have h2:=dL (x+1*2^j);have h3:=Nat.mul_lt_mul'' h2 h2;rw[←Nat.pow_add] at h3;have:=dO h3;omega
   go_wp2_with fail;refine(dG 1 wr (by omega)).mono ?_;rintro ev w2 ⟨o,rfl,ho,hb2⟩;have hB2:=hbr.trans (hb2.mono hbr.size);have hx2':=hx.below hb2 ae;clear hb2 hbr hx;go_wp2_with fail;refine(iu 1 j _ w2 ho (by omega) (by omega)).mono ?_;rintro ev w3 ⟨u,rfl,hu,hb3⟩;have hB3:=hB2.trans (hb3.mono hB2.size);have hx3:=hx2'.below hb3 ae;clear hb3 hB2 hx2' ho;go_wp2_with fail;refine(fk x (1*2^j) _ _ w3 hx3 hu (by omega) (by omega)).mono ?_;rintro ev w4 ⟨y,rfl,hy,hb4⟩;have hB4:=hB3.trans (hb4.mono hB3.size);have hx4:=hx3.below hb4 ae;clear hb4 hB3 hx3 hu;go_wp2_with fail;refine(lP (x+1*2^j) (x+1*2^j) _ _ w4 hy hy (by omega) (by omega)).mono ?_;rintro ev w5 ⟨z,rfl,hz,hb5⟩;have hB5:=hB4.trans (hb5.mono hB4.size);have hx5:=hx4.below hb5 ae;have hy5:=hy.below hb5 ae;clear hb5 hB4 hx4 hy;go_wp2_with fail;refine(pG ((x+1*2^j)*(x+1*2^j)) a _ _ w5 hz (HA.out.below hB5 ae) (by omega) (by have:=HL.out;omega)).mono ?_;rintro ev w6 ⟨rfl,hb6⟩;have hB6:=hB5.trans (hb6.mono hB5.size);have hx6:=hx5.below hb6 ae;have hy6:=hy5.below hb6 ae;clear hb6 hB5 hx5 hy5 hz;rw[Nat.one_mul] at*;have HX2:=hid hx2;have HX1:=hid hx1;have HK:=hid hk;have HX6:=hid hx6;have HY6:=hid hy6;have HB6:=hid hB6;clear hx1 hx2 hk hx6 hy6 hB6 lyy l2 ly lx HStart;by_cases hc:(x+2^j)*(x+2^j)≤a
   ·have hcm:cmpI ((x+2^j)*(x+2^j)) a≤0:=by unfold cmpI;split;omega;split<;>omega
    have HC:=hid hc;have e:Hid (x+2^j+2^j=x+2^(j+1)):=by show _=_;rw[Nat.pow_succ];omega
    clear hc;generalize cmpI ((x+2^j)*(x+2^j)) a=cc at*;go_wp2;go_roundw
    case rel=>exact⟨j,x+2^j,by have:=HK.out;omega,by go_num,HY6.out,HC.out,by rw[e.out];exact HX2.out,HB6.out⟩
    case measure=>simp[intOf]
   ·have hcm:¬cmpI ((x+2^j)*(x+2^j)) a≤0:=by unfold cmpI;rw[if_neg (by omega),if_neg (by omega)];omega
    have HC:Hid (a<(x+2^j)*(x+2^j)):=by show _<_;omega
    clear hc;generalize cmpI ((x+2^j)*(x+2^j)) a=cc at*;go_wp2;go_roundw
    case rel=>exact⟨j,x,by have:=HK.out;omega,by go_num,HX6.out,HX1.out,HC.out,HB6.out⟩
    case measure=>simp[intOf]
def rkT (e:Int):Nat:=if(e-130) % 2=0 then 130 else 131
theorem Az (xa:Value) (sa:Bool) (na:Nat) (ea:Int) (w:World) (ha:aM w xa sa na ea)
  (hla:(digits na).length≤1000) (he1:-100000≤ea) (he2:ea≤100000):
  ax 70 #[xa] w fun ev w'=>∃x c,ev= .returned x∧mN (na*2^rkT ea) c∧aM w' x false (mkN c (decide (c*c=na*2^rkT ea))) ((ea-rkT ea) / 2-1)∧Below w.heap.size w w':=by
 obtain⟨ao,la,ca,rfl,hl1,hNa⟩:=ha;clear hl1;by_cases hp:(ea-130) % 2=0
 ·have hk:rkT ea=130:=by unfold rkT;rw[if_pos hp]
  have ht:((ea-130).tmod 2 !=0)=false:=by rw[Int.tmod_eq_zero_of_dvd (Int.dvd_of_emod_eq_zero hp)];rfl
  have HK:=hid hk;have hdv:=Int.dvd_of_emod_eq_zero (by omega);have htd:=Int.tdiv_eq_ediv_of_dvd hdv;have lup:(digits (na*2^130)).length≤10000:=Nat.le_trans dQ (by omega);clear hk hdv hp;go_enter Tryz.func70,Tryz.ntmps70;go_wp2_with fail;have B0:=ai (af w (.cells #[.bool sa,.slice ao la ca,iV ea] 92)) (.cells #[.bool false,.slice none 0 0,iV 0] 92);have B2:=af (w.alloc (.cells #[.bool sa,.slice ao la ca,iV ea] 92)) (.cells #[.bool false,.slice none 0 0,iV 0] 92);have hW:Below w.heap.size w ((w.alloc (.cells #[.bool sa,.slice ao la ca,iV ea] 92)).alloc (.cells #[.bool false,.slice none 0 0,iV 0] 92)):=aJ.alloc (by simp) _;simp only[World.size_alloc] at B2;generalize((w.alloc (.cells #[.bool sa,.slice ao la ca,iV ea] 92)).alloc (.cells #[.bool false,.slice none 0 0,iV 0] 92))=W2 at*;refine(iu na 130 _ _ (hNa.below hW ae) (by omega) (by omega)).mono ?_;rintro ev w2 ⟨n,rfl,hn,hb2⟩;have hW2:=hW.trans (hb2.mono hW.size);have C0:=aa B0 hb2;have C2:=aa B2 hb2;clear hb2 hW B0 B2 hNa;go_wp2_with fail;refine(t7 (na*2^130) _ w2 hn lup).mono ?_;rintro ev w3 ⟨q,c,rfl,hqv,hroot,hb3⟩;have hW3:=hW2.trans (hb3.mono hW2.size);have D0:=aa C0 hb3;have HD2:=hid (aa C2 hb3);have lc:=Nat.le_trans (qI hroot.1) lup;obtain⟨k00,k01,k02,-,-,-⟩:=aB D0;have HW3:=hid hW3;have HV:=hid hqv;have HRoot:=hid hroot;have HMK:Hid (∀w3,aq w3 q c→ax 125 #[.bool false,q,iV ((ea-130) / 2),.bool (decide (c*c=na*2^130))] w3 fun ev w'=>∃x,ev= .returned x∧aM w' x (false && decide (mkN c (decide (c*c=na*2^130))≠0)) (mkN c (decide (c*c=na*2^130))) ((ea-130) / 2-1)∧Below w3.heap.size w3 w'):=fun w3 h3=>nS false _ _ _ q w3 h3 (by omega) (by omega) (by omega)
  clear hW2 hb3 C0 C2 D0 hn hqv hW3 hroot lup lc hla
  have HP:Hid (∀w4 x,aM w4 x (false && decide (mkN c (decide (c*c=na*2^130))≠0)) (mkN c (decide (c*c=na*2^130))) ((ea-130) / 2-1)→mN (na*2^rkT ea) c∧aM w4 x false (mkN c (decide (c*c=na*2^rkT ea))) ((ea-rkT ea) / 2-1)):=by
   intro w4 x h;rw[HK.out];exact⟨HRoot.out,h⟩
  clear HRoot HK;generalize decide (c*c=na*2^130)=wh at*;go_wp2_with fail;refine (HMK.out _ HV.out).mono ?_;rintro ev w4 ⟨x,rfl,⟨vo,vl,vc,rfl,hvl,hvn⟩,hb4⟩;have hbA:=HW3.out.trans (hb4.mono HW3.out.size);have HB2:=hid (aa HD2.out hb4);obtain⟨k20,k21,k22,k23,k24,k25⟩:=aB HB2.out;have HBX:=hid (aZ.of HB2.out);have HB4:=hid hbA;have HVL:=hid hvl;have HVN:=hid hvn;clear hb4 hbA hvl hvn HMK HV HW3 HD2 k00 k01 k02;go_wp2_with fail;refine bodyPost_ret (v:= .agg #[.bool (false && decide (mkN c wh≠0)),.slice vo vl vc,iV ((ea-130) / 2-1)]) (by simp[results,Tryz.results70,go_sem,k20,k21,k22]) rfl ?_;have K:aU w4 (((w4.setCell ⟨w.heap.size+1,0,none⟩ (.bool (false && decide (mkN c wh≠0)))).setCell ⟨w.heap.size+1,1,none⟩ (.slice vo vl vc)).setCell ⟨w.heap.size+1,2,none⟩ (iV ((ea-130) / 2-1))):=(((aU.refl w4).set HBX.out (by decide)).set HBX.out.set (by decide)).set HBX.out.set.set (by decide);obtain⟨z1,z2⟩:=HP.out _ _ ⟨_,_,_,rfl,HVL.out,HVN.out.keeps K⟩;exact⟨_,c,rfl,z1,z2,((HB4.out.setCell (by simp) _).setCell (by simp) _).setCell (by simp) _⟩
 ·have hk:rkT ea=131:=by unfold rkT;rw[if_neg hp]
  have ht:((ea-130).tmod 2 !=0)=true:=by
   rw[bne_iff_ne];intro hc;exact hp (Int.emod_eq_zero_of_dvd (Int.dvd_of_tmod_eq_zero hc))
  have HK:=hid hk;have hdv:(2:Int)∣ea-131:=Int.dvd_of_emod_eq_zero (by omega);have htd:=Int.tdiv_eq_ediv_of_dvd hdv;have lup:(digits (na*2^131)).length≤10000:=Nat.le_trans dQ (by omega);clear hk hdv hp;go_enter Tryz.func70,Tryz.ntmps70;go_wp2_with fail;have B0:=ai (af w (.cells #[.bool sa,.slice ao la ca,iV ea] 92)) (.cells #[.bool false,.slice none 0 0,iV 0] 92);have B2:=af (w.alloc (.cells #[.bool sa,.slice ao la ca,iV ea] 92)) (.cells #[.bool false,.slice none 0 0,iV 0] 92);have hW:Below w.heap.size w ((w.alloc (.cells #[.bool sa,.slice ao la ca,iV ea] 92)).alloc (.cells #[.bool false,.slice none 0 0,iV 0] 92)):=aJ.alloc (by simp) _;simp only[World.size_alloc] at B2;generalize((w.alloc (.cells #[.bool sa,.slice ao la ca,iV ea] 92)).alloc (.cells #[.bool false,.slice none 0 0,iV 0] 92))=W2 at*;refine(iu na 131 _ _ (hNa.below hW ae) (by omega) (by omega)).mono ?_;rintro ev w2 ⟨n,rfl,hn,hb2⟩;have hW2:=hW.trans (hb2.mono hW.size);have C0:=aa B0 hb2;have C2:=aa B2 hb2;clear hb2 hW B0 B2 hNa;go_wp2_with fail;refine(t7 (na*2^131) _ w2 hn lup).mono ?_;rintro ev w3 ⟨q,c,rfl,hqv,hroot,hb3⟩;have hW3:=hW2.trans (hb3.mono hW2.size);have D0:=aa C0 hb3;have HD2:=hid (aa C2 hb3);have lc:=Nat.le_trans (qI hroot.1) lup;obtain⟨k00,k01,k02,-,-,-⟩:=aB D0;have HW3:=hid hW3;have HV:=hid hqv;have HRoot:=hid hroot;have HMK:Hid (∀w3,aq w3 q c→ax 125 #[.bool false,q,iV ((ea-131) / 2),.bool (decide (c*c=na*2^131))] w3 fun ev w'=>∃x,ev= .returned x∧aM w' x (false && decide (mkN c (decide (c*c=na*2^131))≠0)) (mkN c (decide (c*c=na*2^131))) ((ea-131) / 2-1)∧Below w3.heap.size w3 w'):=fun w3 h3=>nS false _ _ _ q w3 h3 (by omega) (by omega) (by omega)
  clear hW2 hb3 C0 C2 D0 hn hqv hW3 hroot lup lc hla
  have HP:Hid (∀w4 x,aM w4 x (false && decide (mkN c (decide (c*c=na*2^131))≠0)) (mkN c (decide (c*c=na*2^131))) ((ea-131) / 2-1)→mN (na*2^rkT ea) c∧aM w4 x false (mkN c (decide (c*c=na*2^rkT ea))) ((ea-rkT ea) / 2-1)):=by
   intro w4 x h;rw[HK.out];exact⟨HRoot.out,h⟩
  clear HRoot HK;generalize decide (c*c=na*2^131)=wh at*;go_wp2_with fail;refine (HMK.out _ HV.out).mono ?_;rintro ev w4 ⟨x,rfl,⟨vo,vl,vc,rfl,hvl,hvn⟩,hb4⟩;have hbA:=HW3.out.trans (hb4.mono HW3.out.size);have HB2:=hid (aa HD2.out hb4);obtain⟨k20,k21,k22,k23,k24,k25⟩:=aB HB2.out;have HBX:=hid (aZ.of HB2.out);have HB4:=hid hbA;have HVL:=hid hvl;have HVN:=hid hvn;clear hb4 hbA hvl hvn HMK HV HW3 HD2 k00 k01 k02;go_wp2_with fail;refine bodyPost_ret (v:= .agg #[.bool (false && decide (mkN c wh≠0)),.slice vo vl vc,iV ((ea-131) / 2-1)]) (by simp[results,Tryz.results70,go_sem,k20,k21,k22]) rfl ?_;have K:aU w4 (((w4.setCell ⟨w.heap.size+1,0,none⟩ (.bool (false && decide (mkN c wh≠0)))).setCell ⟨w.heap.size+1,1,none⟩ (.slice vo vl vc)).setCell ⟨w.heap.size+1,2,none⟩ (iV ((ea-131) / 2-1))):=(((aU.refl w4).set HBX.out (by decide)).set HBX.out.set (by decide)).set HBX.out.set.set (by decide);obtain⟨z1,z2⟩:=HP.out _ _ ⟨_,_,_,rfl,HVL.out,HVN.out.keeps K⟩;exact⟨_,c,rfl,z1,z2,((HB4.out.setCell (by simp) _).setCell (by simp) _).setCell (by simp) _⟩
theorem z9 {W:World} {g:Nat} {a b c d e f a' b' c' d' e' f':Value} {t:TypeId} (h:W.heap[g]?=some (.cells #[a',b',c',d',e',f'] t (0,0))):
  ((((((W.setCell ⟨g,0,none⟩ a).setCell ⟨g,1,none⟩ b).setCell ⟨g,2,none⟩ c).setCell ⟨g,3,none⟩ d).setCell ⟨g,4,none⟩ e).setCell ⟨g,5,none⟩ f).heap[g]?=some (.cells #[a,b,c,d,e,f] t (0,0)):=by
 simp[World.setCell,Array.getElem?_modify,h]
theorem bH {W:World} {g:Nat} {a b c d e f:Value} {t:TypeId} (h:W.heap[g]?=some (.cells #[a,b,c,d,e,f] t (0,0))):
  W.cell? ⟨g,0,none⟩=some a∧W.cell? ⟨g,1,none⟩=some b∧W.cell? ⟨g,2,none⟩=some c∧W.cell? ⟨g,3,none⟩=some d∧W.cell? ⟨g,4,none⟩=some e∧W.cell? ⟨g,5,none⟩=some f∧W.frozen? ⟨g,0,none⟩=false∧W.frozen? ⟨g,1,none⟩=false∧W.frozen? ⟨g,2,none⟩=false∧W.frozen? ⟨g,3,none⟩=false∧W.frozen? ⟨g,4,none⟩=false∧W.frozen? ⟨g,5,none⟩=false:=
 ⟨by simp[World.cell?,h],by simp[World.cell?,h],by simp[World.cell?,h],by simp[World.cell?,h],by simp[World.cell?,h],by simp[World.cell?,h],by simp[World.frozen?,h],by simp[World.frozen?,h],by simp[World.frozen?,h],by simp[World.frozen?,h],by simp[World.frozen?,h],by simp[World.frozen?,h]⟩
def plT (b:Nat):ap:=(au b).getD (false,0,0)
def IvV (w:World) (v:Value) (x y:ap):Prop:=
 ∃ao la ca bo lb cb,v= .agg #[.bool x.1,.slice ao la ca,iV x.2.2,.bool y.1,.slice bo lb cb,iV y.2.2]∧la=(digits x.2.1).length∧lb=(digits y.2.1).length∧aq w (.slice ao la ca) x.2.1∧aq w (.slice bo lb cb) y.2.1
theorem fP {b:Nat} (h:b<18446744073709551616):posW b<18446744073709551616:=by unfold posW;split<;>omega
theorem Ct {lo hi:Nat} (h:lo<18446744073709551616):(makeN lo hi).1<18446744073709551616:=by
 unfold makeN;split
 ·show(0:Nat)<_
  omega
 ·split
  ·show(0:Nat)<_
   omega
  ·exact fP h
theorem Bd {lo hi:Nat} (h:hi<18446744073709551616):(makeN lo hi).2.1<18446744073709551616:=by
 unfold makeN;split
 ·show(0:Nat)<_
  omega
 ·split
  ·show(0:Nat)<_
   omega
  ·exact fP h
theorem yr (lo hi:Nat) (w:World) (h1:lo<18446744073709551616) (h2:hi<18446744073709551616):
  ax 60 #[gU lo hi] w fun e w'=>∃v,e= .returned v∧IvV w' v (plT (makeN lo hi).1) (plT (makeN lo hi).2.1)∧Below w.heap.size w w':=by
 have HM:=hid (fun(w:World)=>jS lo hi w h1 h2);have hm1:(makeN lo hi).1<18446744073709551616:=Ct h1;have hm2:(makeN lo hi).2.1<18446744073709551616:=Bd h2;have HP1:Hid (∀w,ax 57 #[uV ((makeN lo hi).1:Int)] w fun ev w'=>∃x ok,ev= .returned (.tuple #[x,.bool ok])∧aM w' x (plT (makeN lo hi).1).1 (plT (makeN lo hi).1).2.1 (plT (makeN lo hi).1).2.2∧Below w.heap.size w w'):=fun w=>(gv _ w hm1).mono (fun ev w' h=>by obtain⟨x,h1,h2,h3⟩:=h;exact⟨x,_,h1,h2,h3⟩)
 have HP2:Hid (∀w,ax 57 #[uV ((makeN lo hi).2.1:Int)] w fun ev w'=>∃x ok,ev= .returned (.tuple #[x,.bool ok])∧aM w' x (plT (makeN lo hi).2.1).1 (plT (makeN lo hi).2.1).2.1 (plT (makeN lo hi).2.1).2.2∧Below w.heap.size w w'):=fun w=>(gv _ w hm2).mono (fun ev w' h=>by obtain⟨x,h1,h2,h3⟩:=h;exact⟨x,_,h1,h2,h3⟩)
 clear h1 h2 hm1 hm2;go_enter Tryz.func60,Tryz.ntmps60;go_wp2_with fail;have B1:=af (w.alloc (.cells #[nV lo,nV hi] 28)) (.cells #[.bool false,.slice none 0 0,iV 0,.bool false,.slice none 0 0,iV 0] 98);have hW:Below w.heap.size w ((w.alloc (.cells #[nV lo,nV hi] 28)).alloc (.cells #[.bool false,.slice none 0 0,iV 0,.bool false,.slice none 0 0,iV 0] 98)):=aJ.alloc (by simp) _;simp only[World.size_alloc] at B1;generalize((w.alloc (.cells #[nV lo,nV hi] 28)).alloc (.cells #[.bool false,.slice none 0 0,iV 0,.bool false,.slice none 0 0,iV 0] 98))=W2 at*;refine (HM.out _).mono ?_;rintro ev w1 ⟨rfl,hb1⟩;have hW1:=hW.trans (hb1.mono hW.size);have C1:=aa B1 hb1;clear hb1 hW B1;have C0:=af w1 (.cells #[uV ((makeN lo hi).1:Int),uV ((makeN lo hi).2.1:Int)] 28);have C1':=ai C1 (.cells #[uV ((makeN lo hi).1:Int),uV ((makeN lo hi).2.1:Int)] 28);have hW1':=hW1.alloc hW1.size (.cells #[uV ((makeN lo hi).1:Int),uV ((makeN lo hi).2.1:Int)] 28);go_wp2_with fail;generalize(w1.alloc (.cells #[uV ((makeN lo hi).1:Int),uV ((makeN lo hi).2.1:Int)] 28))=W3 at*;refine (HP1.out _).mono ?_;rintro ev w2 ⟨x,ok1,rfl,⟨ao,la,ca,rfl,hla,hna⟩,hb2⟩;have HLA:=hid hla;have hW2:=hW1'.trans (hb2.mono hW1'.size);have D0:=aa C0 hb2;have D1:=aa C1' hb2;obtain⟨m0,m1,-,-⟩:=aj D0;have hlt:=bL m1;have E1:=ai D1 (.cells #[.bool (plT (makeN lo hi).1).1,.slice ao la ca,iV (plT (makeN lo hi).1).2.2] 92);have E2:=af w2 (.cells #[.bool (plT (makeN lo hi).1).1,.slice ao la ca,iV (plT (makeN lo hi).1).2.2] 92);have hW3:=hW2.alloc hW2.size (.cells #[.bool (plT (makeN lo hi).1).1,.slice ao la ca,iV (plT (makeN lo hi).1).2.2] 92);have hna3:=hna.below ((Below.refl _ w2).alloc ae (.cells #[.bool (plT (makeN lo hi).1).1,.slice ao la ca,iV (plT (makeN lo hi).1).2.2] 92)) ae;clear hb2 hW1' C0 C1' C1 hW1 m0 hla D1;go_wp2_with fail;clear hlt m1 D0 hW2 hna;generalize(w2.alloc (.cells #[.bool (plT (makeN lo hi).1).1,.slice ao la ca,iV (plT (makeN lo hi).1).2.2] 92))=W4 at*;refine (HP2.out _).mono ?_;rintro ev w5 ⟨x,ok2,rfl,⟨bo,lb,cb,rfl,hlb,hnb⟩,hb5⟩;have HLB:=hid hlb;have hW5:=hW3.trans (hb5.mono hW3.size);have F1:=aa E1 hb5;have F2:=aa E2 hb5;have hna5:=hna3.below hb5 ae;obtain⟨m0,m1,m2,-,-,-⟩:=aB F2;have hlt:=bL m0;have hlt2:=ag F1;have S1:=z9 (a:= .bool (plT (makeN lo hi).1).1) (b:= .slice ao la ca) (c:=iV (plT (makeN lo hi).1).2.2) (d:= .bool (plT (makeN lo hi).2.1).1) (e:= .slice bo lb cb) (f:=iV (plT (makeN lo hi).2.1).2.2) F1;obtain⟨q0,q1,q2,q3,q4,q5,-,-,-,-,-,-⟩:=bH (ai S1 (.cells #[.bool (plT (makeN lo hi).2.1).1,.slice bo lb cb,iV (plT (makeN lo hi).2.1).2.2] 92));obtain⟨k0,k1,k2,k3,k4,k5,f0,f1,f2,f3,f4,f5⟩:=bH F1;have b0:=aZ.of F1;have K:=((((((aU.refl w5).set (j:=0) (u:= .bool (plT (makeN lo hi).1).1) b0 (by decide)).set (j:=1) (u:= .slice ao la ca) b0.set (by decide)).set (j:=2) (u:=iV (plT (makeN lo hi).1).2.2) b0.set.set (by decide)).set (j:=3) (u:= .bool (plT (makeN lo hi).2.1).1) b0.set.set.set (by decide)).set (j:=4) (u:= .slice bo lb cb) b0.set.set.set.set (by decide)).set (j:=5) (u:=iV (plT (makeN lo hi).2.1).2.2) b0.set.set.set.set.set (by decide);have K2:=K.trans (aU.alloc ((((((w5.setCell ⟨w.heap.size+1,0,none⟩ (.bool (plT (makeN lo hi).1).1)).setCell ⟨w.heap.size+1,1,none⟩ (.slice ao la ca)).setCell ⟨w.heap.size+1,2,none⟩ (iV (plT (makeN lo hi).1).2.2)).setCell ⟨w.heap.size+1,3,none⟩ (.bool (plT (makeN lo hi).2.1).1)).setCell ⟨w.heap.size+1,4,none⟩ (.slice bo lb cb)).setCell ⟨w.heap.size+1,5,none⟩ (iV (plT (makeN lo hi).2.1).2.2)) (.cells #[.bool (plT (makeN lo hi).2.1).1,.slice bo lb cb,iV (plT (makeN lo hi).2.1).2.2] 92));have HNA:=hid (hna5.keeps K2);have HNB:=hid (hnb.keeps K2);have HW6:Hid (Below w.heap.size w (((((((w5.setCell ⟨w.heap.size+1,0,none⟩ (.bool (plT (makeN lo hi).1).1)).setCell ⟨w.heap.size+1,1,none⟩ (.slice ao la ca)).setCell ⟨w.heap.size+1,2,none⟩ (iV (plT (makeN lo hi).1).2.2)).setCell ⟨w.heap.size+1,3,none⟩ (.bool (plT (makeN lo hi).2.1).1)).setCell ⟨w.heap.size+1,4,none⟩ (.slice bo lb cb)).setCell ⟨w.heap.size+1,5,none⟩ (iV (plT (makeN lo hi).2.1).2.2)).alloc (.cells #[.bool (plT (makeN lo hi).2.1).1,.slice bo lb cb,iV (plT (makeN lo hi).2.1).2.2] 92))):=((((((hW5.setCell (by simp) _).setCell (by simp) _).setCell (by simp) _).setCell (by simp) _).setCell (by simp) _).setCell (by simp) _).alloc (by have:=hW5.size;simp;omega) _;clear hb5 hW3 E1 E2 hna3 hlb F1 F2 hW5 hna5 hnb HP1 HP2 HM K K2 b0 S1;go_wp2_with fail;refine bodyPost_ret (v:= .agg #[.bool (plT (makeN lo hi).1).1,.slice ao la ca,iV (plT (makeN lo hi).1).2.2,.bool (plT (makeN lo hi).2.1).1,.slice bo lb cb,iV (plT (makeN lo hi).2.1).2.2]) (by simp[results,Tryz.results60,go_sem,q0,q1,q2,q3,q4,q5]) rfl ?_;exact⟨_,rfl,⟨_,_,_,_,_,_,rfl,HLA.out,HLB.out,HNA.out,HNB.out⟩,HW6.out⟩
def holdsT (x y:ap):Bool:=decide (sgnI x.1 x.2.1≤0) && decide (0≤sgnI y.1 y.2.1)
theorem kB (v:Value) (x y:ap) (w:World) (h:IvV w v x y):
  aw 121 #[v] w (.bool (holdsT x y)):=by
 obtain⟨ao,la,ca,bo,lb,cb,rfl,hla,hlb,hna,hnb⟩:=h;have HS1:=hid (fun(w':World) (hb:Below w.heap.size w w')=>fw _ x.1 x.2.1 x.2.2 w' ⟨_,_,_,rfl,hla,hna.below hb ae⟩);have HS2:=hid (fun(w':World) (hb:Below w.heap.size w w')=>fw _ y.1 y.2.1 y.2.2 w' ⟨_,_,_,rfl,hlb,hnb.below hb ae⟩);have hT:Hid (holdsT x y=(decide (sgnI x.1 x.2.1≤0) && decide (0≤sgnI y.1 y.2.1))):=rfl;clear hla hlb hna hnb;go_enter Tryz.func121,Tryz.ntmps121;go_wp2_with fail;have B0:=af w (.cells #[.bool x.1,.slice ao la ca,iV x.2.2,.bool y.1,.slice bo lb cb,iV y.2.2] 98);have hW:=(Below.refl w.heap.size w).alloc ae (.cells #[.bool x.1,.slice ao la ca,iV x.2.2,.bool y.1,.slice bo lb cb,iV y.2.2] 98);generalize(w.alloc (.cells #[.bool x.1,.slice ao la ca,iV x.2.2,.bool y.1,.slice bo lb cb,iV y.2.2] 98))=W2 at*;refine (HS1.out _ hW).mono ?_;rintro ev w1 ⟨rfl,hb1⟩;have hW1:=hW.trans (hb1.mono hW.size);obtain⟨k0,k1,k2,k3,k4,k5,-,-,-,-,-,-⟩:=bH (aa B0 hb1);clear hb1 hW B0 HS1;have HW1:=hid hW1;clear hW1;by_cases h1:sgnI x.1 x.2.1≤0
 ·have HT:Hid (∀b,b=decide (0≤sgnI y.1 y.2.1)→b=holdsT x y):=by
   intro b hb;rw[hT.out,decide_eq_true h1,Bool.true_and,hb]
  clear hT;generalize sgnI x.1 x.2.1=sx at*;go_wp2_with fail;refine (HS2.out _ HW1.out).mono ?_;rintro ev w2 ⟨rfl,hb2⟩;have HW2:=hid (HW1.out.trans (hb2.mono HW1.out.size));clear hb2;have HT3:=hid (HT.out _ rfl);clear HT;go_wp2
  go_ret
  refine⟨?_,HW2.out⟩
  show Ending.returned (Value.bool (decide (0≤sgnI y.1 y.2.1)))=_
  rw[HT3.out]
 ·have HT3:Hid (false=holdsT x y):=by
   show _=_
   rw[hT.out,decide_eq_false h1,Bool.false_and]
  clear hT;generalize sgnI x.1 x.2.1=sx at*;go_wp2
  go_ret
  refine⟨?_,HW1.out⟩
  show Ending.returned (Value.bool false)=_
  rw[HT3.out]
def aO (r:Nat×Nat×Nat) (s:ByteArray):Nat×Nat×Nat×ByteArray:=if r.2.2=0 then(r.1,r.2.1,0,⟨#[]⟩) else(0,0,r.2.2,s)
theorem j5 (a b k:Nat) (s:ByteArray) (w:World):
  aw 66 #[gU a b,iV (k:Int),.string s] w (.tuple #[.agg #[uV ((aO (a,b,k) s).1:Int),uV ((aO (a,b,k) s).2.1:Int)],iV ((aO (a,b,k) s).2.2.1:Int),.string (aO (a,b,k) s).2.2.2]):=by
 by_cases h0:k=0
 ·subst h0;have e:Hid (aO (a,b,0) s=(a,b,0,⟨#[]⟩)):=by show _=_;unfold aO;rw[if_pos rfl]
  go_enter Tryz.func66,Tryz.ntmps66;go_wp2_with fail;refine bodyPost_ret (v:= .tuple #[gU a b,iV 0,.string ⟨#[]⟩]) (by simp[results,Tryz.results66,go_sem]) rfl ?_;rw[e.out];exact⟨rfl,by first|exact aJ.alloc (by simp) _|exact(aJ.alloc (by simp) _).drew⟩
 ·have e:Hid (aO (a,b,k) s=(0,0,k,s)):=by show _=_;unfold aO;rw[if_neg h0]
  have hk:((k:Int)==0)=false:=by rw[beq_eq_false_iff_ne];omega
  go_enter Tryz.func66,Tryz.ntmps66;go_wp2_with fail;refine bodyPost_ret (v:= .tuple #[.agg #[uV 0,uV 0],iV (k:Int),.string s]) (by simp[results,Tryz.results66,go_sem]) rfl ?_;rw[e.out];exact⟨rfl,by first|exact aJ.alloc (by simp) _|exact(aJ.alloc (by simp) _).drew⟩
structure qL (w:World) (g:Nat) (x:Nat→ap) (O:Nat→Option Addr) (L C:Nat→Nat):Prop where
 lt:g<w.heap.size
 c0:∀i,i<4→w.cell? ⟨g,i*3,none⟩=some (.bool (x i).1)
 c1:∀i,i<4→w.cell? ⟨g,i*3+1,none⟩=some (.slice (O i) (L i) (C i))
 c2:∀i,i<4→w.cell? ⟨g,i*3+2,none⟩=some (iV (x i).2.2)
 len:∀i,i<4→L i=(digits (x i).2.1).length
 nat:∀i,i<4→aq w (.slice (O i) (L i) (C i)) (x i).2.1
 small:∀i,i<4→cV (x i)∧(digits (x i).2.1).length≤400000
def lessT (x y:ap):Bool:=kF x.1 x.2.1 x.2.2 y.1 y.2.1 y.2.2
def bR (x:Nat→ap):Nat→Nat
 |0=>0
 |i+1=>if lessT (x (i+1)) (x (bR x i)) then i+1 else bR x i
def bS (x:Nat→ap):Nat→Nat
 |0=>0
 |i+1=>if lessT (x (bS x i)) (x (i+1)) then i+1 else bS x i
theorem zI (x:Nat→ap):∀i,bR x i≤i
 |0=>Nat.le_refl _
 |i+1=>by unfold bR;have:=zI x i;split<;>omega
theorem ze (x:Nat→ap):∀i,bS x i≤i
 |0=>Nat.le_refl _
 |i+1=>by unfold bS;have:=ze x i;split<;>omega
theorem qL.numV {w w':World} {g:Nat} {x:Nat→ap} {O:Nat→Option Addr} {L C:Nat→Nat} (h:qL w g x O L C) (hb:Below w.heap.size w w') {i:Nat} (hi:i<4):aM w' (.agg #[.bool (x i).1,.slice (O i) (L i) (C i),iV (x i).2.2]) (x i).1 (x i).2.1 (x i).2.2:=
 ⟨_,_,_,rfl,h.len i hi,(h.nat i hi).below hb ae⟩
theorem qL.less {w w':World} {g:Nat} {x:Nat→ap} {O:Nat→Option Addr} {L C:Nat→Nat} (h:qL w g x O L C) (hb:Below w.heap.size w w') {i j:Nat} (hi:i<4) (hj:j<4):
  aw 58 #[.agg #[.bool (x i).1,.slice (O i) (L i) (C i),iV (x i).2.2],.agg #[.bool (x j).1,.slice (O j) (L j) (C j),iV (x j).2.2]] w' (.bool (lessT (x i) (x j))):=by
 obtain⟨⟨_,a2,a3⟩,a4⟩:=h.small i hi;obtain⟨⟨_,b2,b3⟩,b4⟩:=h.small j hj;exact kR _ _ _ _ _ _ _ _ w' (h.numV hb hi) (h.numV hb hj) a4 b4 (by omega) (by omega) (by omega) (by omega)
structure qy (w w5:World) (x:Nat→ap) (O:Nat→Option Addr) (L C:Nat→Nat) (a b:Nat) (xi:ap) (oi:Option Addr) (li ci:Nat):Prop where
 k1:w5.heap[w.heap.size+1]?=some (.cells #[.bool (x a).1,.slice (O a) (L a) (C a),iV (x a).2.2] 92 (0,0))
 k2:w5.heap[w.heap.size+1+1]?=some (.cells #[.bool (x b).1,.slice (O b) (L b) (C b),iV (x b).2.2] 92 (0,0))
 k0:w5.heap[w.heap.size]?=some (.cells #[uV 0,uV 0] 28 (0,0))
 hb:Below w.heap.size w w5
theorem wA (g:Nat) (x:Nat→ap) (O:Nat→Option Addr) (L C:Nat→Nat) (w:World) (h:qL w g x O L C):
  aw 63 #[.slice (some ⟨g,0,none⟩) 4 4] w (.tuple #[.agg #[uV ((az (x (bR x 3)) (x (bS x 3))).1:Int),uV ((az (x (bR x 3)) (x (bS x 3))).2.1:Int)],iV ((az (x (bR x 3)) (x (bS x 3))).2.2:Int)]):=by
 have q0:w.cell? ⟨g,0,none⟩=some (.bool (x 0).1):=h.c0 0 (by omega);have q1:w.cell? ⟨g,1,none⟩=some (.slice (O 0) (L 0) (C 0)):=h.c1 0 (by omega);have q2:w.cell? ⟨g,2,none⟩=some (iV (x 0).2.2):=h.c2 0 (by omega);have hlt:=h.lt;have H:Hid (qL w g x O L C):=h;clear h;go_enter Tryz.func63,Tryz.ntmps63;go_wp2_with fail;clear q0 q1 q2
 go_loopw [6] (fun v6 wr=>∃i:Nat,i<4∧v6=iV ((i+1:Nat):Int)∧wr.heap[w.heap.size+1]?=some (.cells #[.bool (x (bR x i)).1,.slice (O (bR x i)) (L (bR x i)) (C (bR x i)),iV (x (bR x i)).2.2] 92 (0,0))∧wr.heap[w.heap.size+1+1]?=some (.cells #[.bool (x (bS x i)).1,.slice (O (bS x i)) (L (bS x i)) (C (bS x i)),iV (x (bS x i)).2.2] 92 (0,0))∧wr.heap[w.heap.size]?=some (.cells #[uV 0,uV 0] 28 (0,0))∧Below w.heap.size w wr) (fun v6 _=>4-(intOf v6).toNat)
 case atStart=>
  have B0:=ai (ai (af w (.cells #[uV 0,uV 0] 28)) (.cells #[.bool (x 0).1,.slice (O 0) (L 0) (C 0),iV (x 0).2.2] 92)) (.cells #[.bool (x 0).1,.slice (O 0) (L 0) (C 0),iV (x 0).2.2] 92);have B1:=ai (af (w.alloc (.cells #[uV 0,uV 0] 28)) (.cells #[.bool (x 0).1,.slice (O 0) (L 0) (C 0),iV (x 0).2.2] 92)) (.cells #[.bool (x 0).1,.slice (O 0) (L 0) (C 0),iV (x 0).2.2] 92);have B2:=af ((w.alloc (.cells #[uV 0,uV 0] 28)).alloc (.cells #[.bool (x 0).1,.slice (O 0) (L 0) (C 0),iV (x 0).2.2] 92)) (.cells #[.bool (x 0).1,.slice (O 0) (L 0) (C 0),iV (x 0).2.2] 92);simp only[World.size_alloc] at B1 B2;exact⟨0,by omega,rfl,B1,B2,B0,(aJ.alloc (by simp) _).alloc (by simp;omega) _⟩
 case round=>
  obtain⟨i,hi,rfl,K1,K2,K0,hbr⟩:=hrel;have la:=zI x i;have lb:=ze x i;by_cases h3:i=3
  ·subst h3;have ha:=H.out.small (bR x 3) (by omega);have hb:=H.out.small (bS x 3) (by omega);have nl:=H.out.numV hbr (i:=bR x 3) (by omega);have nh:=H.out.numV hbr (i:=bS x 3) (by omega);have HA:Hid (∀w',Below wr.heap.size wr w'→aw 62 #[.agg #[.bool (x (bR x 3)).1,.slice (O (bR x 3)) (L (bR x 3)) (C (bR x 3)),iV (x (bR x 3)).2.2],.agg #[.bool (x (bS x 3)).1,.slice (O (bS x 3)) (L (bS x 3)) (C (bS x 3)),iV (x (bS x 3)).2.2]] w' (.tuple #[.agg #[uV ((az (x (bR x 3)) (x (bS x 3))).1:Int),uV ((az (x (bR x 3)) (x (bS x 3))).2.1:Int)],iV ((az (x (bR x 3)) (x (bS x 3))).2.2:Int)])):=fun w' hb'=>eJ _ _ _ _ w' (nl.below hb' ae) (nh.below hb' ae) ha.1 hb.1
   obtain⟨a0,a1,a2,-,-,-⟩:=aB K1;obtain⟨b0,b1,b2,-,-,-⟩:=aB K2;have HK0:Hid (wr.heap[w.heap.size]?=_):=K0;have HBR:Hid (Below w.heap.size w wr):=hbr;clear ha hb nl nh K0 K1 K2 hbr la lb;go_wp2_with fail;refine (HA.out _ aK).mono ?_;rintro ev w3 ⟨rfl,hb3⟩;have HB4:Hid (Below w.heap.size w w3):=HBR.out.trans (hb3.mono HBR.out.size);have HK3:Hid (w3.heap[w.heap.size]?=_):=aa HK0.out hb3;obtain⟨k0,k1,k2,k3⟩:=aj HK3.out;clear hb3 HA HBR HK0 a0 a1 a2 b0 b1 b2;go_wp2_with fail;refine bodyPost_ret (v:= .tuple #[.agg #[uV ((az (x (bR x 3)) (x (bS x 3))).1:Int),uV ((az (x (bR x 3)) (x (bS x 3))).2.1:Int)],iV ((az (x (bR x 3)) (x (bS x 3))).2.2:Int)]) (by simp[results,Tryz.results63,go_sem,k0,k1]) rfl ?_;exact⟨rfl,(HB4.out.setCell (by simp) _).setCell (by simp) _⟩
  ·have hi1:i+1<4:=by omega
   have d0:=(hbr.cell (p:=⟨g,(i+1)*3,none⟩) hlt).trans (H.out.c0 (i+1) hi1);have d1:=(hbr.cell (p:=⟨g,(i+1)*3+1,none⟩) hlt).trans (H.out.c1 (i+1) hi1);have d2:=(hbr.cell (p:=⟨g,(i+1)*3+2,none⟩) hlt).trans (H.out.c2 (i+1) hi1);obtain⟨a0,a1,a2,-,-,-⟩:=aB K1;obtain⟨b0,b1,b2,-,-,-⟩:=aB K2;have HK1:Hid (wr.drew.heap[w.heap.size+1]?=_):=K1;have HK2:Hid (wr.drew.heap[w.heap.size+1+1]?=_):=K2;have HK0:Hid (wr.drew.heap[w.heap.size]?=_):=K0;have HBR:Hid (Below w.heap.size w wr.drew):=hbr.drew;have e1:Hid (bR x (i+1)=if lessT (x (i+1)) (x (bR x i)) then i+1 else bR x i):=rfl;have e2:Hid (bS x (i+1)=if lessT (x (bS x i)) (x (i+1)) then i+1 else bS x i):=rfl;generalize hA:bR x i=a at*;generalize hB:bS x i=b at*;have ha4:a<4:=by omega
   have hb4:b<4:=by omega
   have HL1:Hid (∀w',Below w.heap.size w w'→aw 58 #[.agg #[.bool (x (i+1)).1,.slice (O (i+1)) (L (i+1)) (C (i+1)),iV (x (i+1)).2.2],.agg #[.bool (x a).1,.slice (O a) (L a) (C a),iV (x a).2.2]] w' (.bool (lessT (x (i+1)) (x a)))):=fun w' hb=>H.out.less hb hi1 ha4
   have HL2:Hid (∀w',Below w.heap.size w w'→aw 58 #[.agg #[.bool (x b).1,.slice (O b) (L b) (C b),iV (x b).2.2],.agg #[.bool (x (i+1)).1,.slice (O (i+1)) (L (i+1)) (C (i+1)),iV (x (i+1)).2.2]] w' (.bool (lessT (x b) (x (i+1))))):=fun w' hb=>H.out.less hb hb4 hi1
   have HD:Hid (∀w',Below w.heap.size w w'→w'.cell? ⟨g,(i+1)*3,none⟩=some (.bool (x (i+1)).1)∧w'.cell? ⟨g,(i+1)*3+1,none⟩=some (.slice (O (i+1)) (L (i+1)) (C (i+1)))∧w'.cell? ⟨g,(i+1)*3+2,none⟩=some (iV (x (i+1)).2.2)):=fun w' hb=>⟨(hb.cell (p:=⟨g,(i+1)*3,none⟩) hlt).trans (H.out.c0 (i+1) hi1),(hb.cell (p:=⟨g,(i+1)*3+1,none⟩) hlt).trans (H.out.c1 (i+1) hi1),(hb.cell (p:=⟨g,(i+1)*3+2,none⟩) hlt).trans (H.out.c2 (i+1) hi1)⟩
   generalize hX:x (i+1)=xi at*;generalize hO:O (i+1)=oi at*;generalize hL:L (i+1)=li at*;generalize hC:C (i+1)=ci at*;have HX:Hid (x (i+1)=xi∧O (i+1)=oi∧L (i+1)=li∧C (i+1)=ci):=⟨hX,hO,hL,hC⟩;have HI:Hid (i+1<4):=hi1;clear K0 K1 K2 hbr la lb hX hO hL hC hA hB ha4 hb4 hi1 hi;rcases(show i=0∨i=1∨i=2 by have:=HI.out;omega) with rfl|rfl|rfl
   all_goals
    clear h3;simp only[Nat.zero_add,Nat.reduceAdd,Nat.reduceMul] at d0 d1 d2 HD;go_wp2_with fail
   ·go_region_held3 (fun W=>W.cell? ⟨g,3,none⟩=some (.bool xi.1)∧W.cell? ⟨g,4,none⟩=some (.slice oi li ci)∧W.cell? ⟨g,5,none⟩=some (.int .i64 xi.2.2)∧W.cell? ⟨w.heap.size+1,0,none⟩=some (.bool (x a).1)∧W.cell? ⟨w.heap.size+1,1,none⟩=some (.slice (O a) (L a) (C a))∧W.cell? ⟨w.heap.size+1,2,none⟩=some (.int .i64 (x a).2.2)) (first|(go_keep;done)|(refine⟨?_,?_,?_,?_,?_,?_⟩<;>first|(go_keep;done)|assumption))
     (first
       |(go_at_call 58;refine (HL1.out _ HBR.out).mono ?_;rintro e w3 ⟨rfl,hb3⟩
         have HB3:Hid (Below _ _ w3):=hb3;obtain⟨d0,d1,d2⟩:=HD.out _ (HBR.out.trans (hb3.mono HBR.out.size));obtain⟨a0,a1,a2,-,-,-⟩:=aB (aa HK1.out hb3);obtain⟨b0,b1,b2,-,-,-⟩:=aB (aa HK2.out hb3);clear hb3))
    have M1:=aa HK1.out HB3.out;have HM1:Hid (w3.drew.heap[w.heap.size+1]?=_):=M1;clear M1;have M2:=aa HK2.out HB3.out;have HM2:Hid (w3.drew.heap[w.heap.size+1+1]?=_):=M2;clear M2;have M0:=aa HK0.out HB3.out;have HM0:Hid (w3.drew.heap[w.heap.size]?=_):=M0;clear M0;have HB4:Hid (Below w.heap.size w w3.drew):=(HBR.out.trans (HB3.out.mono HBR.out.size)).drew;clear HK1 HK2 HK0 HBR HB3 HL1;go_wp2_with fail
    go_region_held3 (fun W=>W.cell? ⟨g,3,none⟩=some (.bool xi.1)∧W.cell? ⟨g,4,none⟩=some (.slice oi li ci)∧W.cell? ⟨g,5,none⟩=some (.int .i64 xi.2.2)∧W.cell? ⟨w.heap.size+1+1,0,none⟩=some (.bool (x b).1)∧W.cell? ⟨w.heap.size+1+1,1,none⟩=some (.slice (O b) (L b) (C b))∧W.cell? ⟨w.heap.size+1+1,2,none⟩=some (.int .i64 (x b).2.2)) (first|(go_keep;done)|(refine⟨?_,?_,?_,?_,?_,?_⟩<;>first|(go_keep;done)|assumption))
     (first|(go_at_call 58;refine (HL2.out _ HB4.out).mono ?_;rintro e w5 ⟨rfl,hb5⟩
             have HB5:Hid (Below _ _ w5):=hb5;obtain⟨d0,d1,d2⟩:=HD.out _ (HB4.out.trans (hb5.mono HB4.out.size));obtain⟨a0,a1,a2,a3,a4,a5⟩:=aB (aa HM1.out hb5);obtain⟨b0,b1,b2,b3,b4,b5⟩:=aB (aa HM2.out hb5);clear hb5))
    have HN1:Hid (w5.heap[w.heap.size+1]?=_):=aa HM1.out HB5.out;have HN2:Hid (w5.heap[w.heap.size+1+1]?=_):=aa HM2.out HB5.out;have HN0:Hid (w5.heap[w.heap.size]?=_):=aa HM0.out HB5.out;have HB6:Hid (Below w.heap.size w w5):=HB4.out.trans (HB5.out.mono HB4.out.size);have step:Hid (qy w w5 x O L C a b xi oi li ci):=⟨HN1.out,HN2.out,HN0.out,HB6.out⟩;clear HM1 HM2 HM0 HB4 HB5 HL2 HN1 HN2 HN0 HB6 HD;have gx:=hlt
    cases t1:lessT xi (x a)<;>cases t2:lessT (x b) xi
    all_goals
     have F1:=e1.out;have F2:=e2.out;rw[t1] at F1;rw[t2] at F2;simp only[Bool.false_eq_true,if_false,if_true] at F1 F2;have E1:Hid (bR x _=_):=F1;have E2:Hid (bS x _=_):=F2;clear F1 F2 e1 e2;go_wp2;go_roundw
     case measure=>simp[intOf]
    ·exact⟨1,by omega,rfl,by rw[E1.out];exact step.out.k1,by rw[E2.out];exact step.out.k2,step.out.k0,step.out.hb⟩
    ·refine⟨1,by omega,rfl,by rw[E1.out];exact aD step.out.k1 (by omega),?_,aD step.out.k0 (by omega),((step.out.hb.setCell (by simp;omega) _).setCell (by simp;omega) _).setCell (by simp;omega) _⟩;rw[E2.out,HX.out.1,HX.out.2.1,HX.out.2.2.1,HX.out.2.2.2];exact aY step.out.k2
    ·refine⟨1,by omega,rfl,?_,by rw[E2.out];exact aD step.out.k2 (by omega),aD step.out.k0 (by omega),((step.out.hb.setCell (by simp) _).setCell (by simp) _).setCell (by simp) _⟩;rw[E1.out,HX.out.1,HX.out.2.1,HX.out.2.2.1,HX.out.2.2.2];exact aY step.out.k1
    ·refine⟨1,by omega,rfl,?_,?_,aD (aD step.out.k0 (by omega)) (by omega),((((((step.out.hb.setCell (by simp) _).setCell (by simp) _).setCell (by simp) _).setCell (by simp;omega) _).setCell (by simp;omega) _).setCell (by simp;omega) _)⟩
     ·rw[E1.out,HX.out.1,HX.out.2.1,HX.out.2.2.1,HX.out.2.2.2];exact aD (aY step.out.k1) (by omega)
     ·rw[E2.out,HX.out.1,HX.out.2.1,HX.out.2.2.1,HX.out.2.2.2];exact aY (aD step.out.k2 (by omega))
   ·go_region_held3 (fun W=>W.cell? ⟨g,6,none⟩=some (.bool xi.1)∧W.cell? ⟨g,7,none⟩=some (.slice oi li ci)∧W.cell? ⟨g,8,none⟩=some (.int .i64 xi.2.2)∧W.cell? ⟨w.heap.size+1,0,none⟩=some (.bool (x a).1)∧W.cell? ⟨w.heap.size+1,1,none⟩=some (.slice (O a) (L a) (C a))∧W.cell? ⟨w.heap.size+1,2,none⟩=some (.int .i64 (x a).2.2)) (first|(go_keep;done)|(refine⟨?_,?_,?_,?_,?_,?_⟩<;>first|(go_keep;done)|assumption))
     (first
       |(go_at_call 58;refine (HL1.out _ HBR.out).mono ?_;rintro e w3 ⟨rfl,hb3⟩
         have HB3:Hid (Below _ _ w3):=hb3;obtain⟨d0,d1,d2⟩:=HD.out _ (HBR.out.trans (hb3.mono HBR.out.size));obtain⟨a0,a1,a2,-,-,-⟩:=aB (aa HK1.out hb3);obtain⟨b0,b1,b2,-,-,-⟩:=aB (aa HK2.out hb3);clear hb3))
    have M1:=aa HK1.out HB3.out;have HM1:Hid (w3.drew.heap[w.heap.size+1]?=_):=M1;clear M1;have M2:=aa HK2.out HB3.out;have HM2:Hid (w3.drew.heap[w.heap.size+1+1]?=_):=M2;clear M2;have M0:=aa HK0.out HB3.out;have HM0:Hid (w3.drew.heap[w.heap.size]?=_):=M0;clear M0;have HB4:Hid (Below w.heap.size w w3.drew):=(HBR.out.trans (HB3.out.mono HBR.out.size)).drew;clear HK1 HK2 HK0 HBR HB3 HL1;go_wp2_with fail
    go_region_held3 (fun W=>W.cell? ⟨g,6,none⟩=some (.bool xi.1)∧W.cell? ⟨g,7,none⟩=some (.slice oi li ci)∧W.cell? ⟨g,8,none⟩=some (.int .i64 xi.2.2)∧W.cell? ⟨w.heap.size+1+1,0,none⟩=some (.bool (x b).1)∧W.cell? ⟨w.heap.size+1+1,1,none⟩=some (.slice (O b) (L b) (C b))∧W.cell? ⟨w.heap.size+1+1,2,none⟩=some (.int .i64 (x b).2.2)) (first|(go_keep;done)|(refine⟨?_,?_,?_,?_,?_,?_⟩<;>first|(go_keep;done)|assumption))
     (first|(go_at_call 58;refine (HL2.out _ HB4.out).mono ?_;rintro e w5 ⟨rfl,hb5⟩
             have HB5:Hid (Below _ _ w5):=hb5;obtain⟨d0,d1,d2⟩:=HD.out _ (HB4.out.trans (hb5.mono HB4.out.size));obtain⟨a0,a1,a2,a3,a4,a5⟩:=aB (aa HM1.out hb5);obtain⟨b0,b1,b2,b3,b4,b5⟩:=aB (aa HM2.out hb5);clear hb5))
    have HN1:Hid (w5.heap[w.heap.size+1]?=_):=aa HM1.out HB5.out;have HN2:Hid (w5.heap[w.heap.size+1+1]?=_):=aa HM2.out HB5.out;have HN0:Hid (w5.heap[w.heap.size]?=_):=aa HM0.out HB5.out;have HB6:Hid (Below w.heap.size w w5):=HB4.out.trans (HB5.out.mono HB4.out.size);have step:Hid (qy w w5 x O L C a b xi oi li ci):=⟨HN1.out,HN2.out,HN0.out,HB6.out⟩;clear HM1 HM2 HM0 HB4 HB5 HL2 HN1 HN2 HN0 HB6 HD;have gx:=hlt
    cases t1:lessT xi (x a)<;>cases t2:lessT (x b) xi
    all_goals
     have F1:=e1.out;have F2:=e2.out;rw[t1] at F1;rw[t2] at F2;simp only[Bool.false_eq_true,if_false,if_true] at F1 F2;have E1:Hid (bR x _=_):=F1;have E2:Hid (bS x _=_):=F2;clear F1 F2 e1 e2;go_wp2;go_roundw
     case measure=>simp[intOf]
    ·exact⟨2,by omega,rfl,by rw[E1.out];exact step.out.k1,by rw[E2.out];exact step.out.k2,step.out.k0,step.out.hb⟩
    ·refine⟨2,by omega,rfl,by rw[E1.out];exact aD step.out.k1 (by omega),?_,aD step.out.k0 (by omega),((step.out.hb.setCell (by simp;omega) _).setCell (by simp;omega) _).setCell (by simp;omega) _⟩;rw[E2.out,HX.out.1,HX.out.2.1,HX.out.2.2.1,HX.out.2.2.2];exact aY step.out.k2
    ·refine⟨2,by omega,rfl,?_,by rw[E2.out];exact aD step.out.k2 (by omega),aD step.out.k0 (by omega),((step.out.hb.setCell (by simp) _).setCell (by simp) _).setCell (by simp) _⟩;rw[E1.out,HX.out.1,HX.out.2.1,HX.out.2.2.1,HX.out.2.2.2];exact aY step.out.k1
    ·refine⟨2,by omega,rfl,?_,?_,aD (aD step.out.k0 (by omega)) (by omega),((((((step.out.hb.setCell (by simp) _).setCell (by simp) _).setCell (by simp) _).setCell (by simp;omega) _).setCell (by simp;omega) _).setCell (by simp;omega) _)⟩
     ·rw[E1.out,HX.out.1,HX.out.2.1,HX.out.2.2.1,HX.out.2.2.2];exact aD (aY step.out.k1) (by omega)
     ·rw[E2.out,HX.out.1,HX.out.2.1,HX.out.2.2.1,HX.out.2.2.2];exact aY (aD step.out.k2 (by omega))
   ·go_region_held3 (fun W=>W.cell? ⟨g,9,none⟩=some (.bool xi.1)∧W.cell? ⟨g,10,none⟩=some (.slice oi li ci)∧W.cell? ⟨g,11,none⟩=some (.int .i64 xi.2.2)∧W.cell? ⟨w.heap.size+1,0,none⟩=some (.bool (x a).1)∧W.cell? ⟨w.heap.size+1,1,none⟩=some (.slice (O a) (L a) (C a))∧W.cell? ⟨w.heap.size+1,2,none⟩=some (.int .i64 (x a).2.2)) (first|(go_keep;done)|(refine⟨?_,?_,?_,?_,?_,?_⟩<;>first|(go_keep;done)|assumption))
     (first
       |(go_at_call 58;refine (HL1.out _ HBR.out).mono ?_;rintro e w3 ⟨rfl,hb3⟩
         have HB3:Hid (Below _ _ w3):=hb3;obtain⟨d0,d1,d2⟩:=HD.out _ (HBR.out.trans (hb3.mono HBR.out.size));obtain⟨a0,a1,a2,-,-,-⟩:=aB (aa HK1.out hb3);obtain⟨b0,b1,b2,-,-,-⟩:=aB (aa HK2.out hb3);clear hb3))
    have M1:=aa HK1.out HB3.out;have HM1:Hid (w3.drew.heap[w.heap.size+1]?=_):=M1;clear M1;have M2:=aa HK2.out HB3.out;have HM2:Hid (w3.drew.heap[w.heap.size+1+1]?=_):=M2;clear M2;have M0:=aa HK0.out HB3.out;have HM0:Hid (w3.drew.heap[w.heap.size]?=_):=M0;clear M0;have HB4:Hid (Below w.heap.size w w3.drew):=(HBR.out.trans (HB3.out.mono HBR.out.size)).drew;clear HK1 HK2 HK0 HBR HB3 HL1;go_wp2_with fail
    go_region_held3 (fun W=>W.cell? ⟨g,9,none⟩=some (.bool xi.1)∧W.cell? ⟨g,10,none⟩=some (.slice oi li ci)∧W.cell? ⟨g,11,none⟩=some (.int .i64 xi.2.2)∧W.cell? ⟨w.heap.size+1+1,0,none⟩=some (.bool (x b).1)∧W.cell? ⟨w.heap.size+1+1,1,none⟩=some (.slice (O b) (L b) (C b))∧W.cell? ⟨w.heap.size+1+1,2,none⟩=some (.int .i64 (x b).2.2)) (first|(go_keep;done)|(refine⟨?_,?_,?_,?_,?_,?_⟩<;>first|(go_keep;done)|assumption))
     (first|(go_at_call 58;refine (HL2.out _ HB4.out).mono ?_;rintro e w5 ⟨rfl,hb5⟩
             have HB5:Hid (Below _ _ w5):=hb5;obtain⟨d0,d1,d2⟩:=HD.out _ (HB4.out.trans (hb5.mono HB4.out.size));obtain⟨a0,a1,a2,a3,a4,a5⟩:=aB (aa HM1.out hb5);obtain⟨b0,b1,b2,b3,b4,b5⟩:=aB (aa HM2.out hb5);clear hb5))
    have HN1:Hid (w5.heap[w.heap.size+1]?=_):=aa HM1.out HB5.out;have HN2:Hid (w5.heap[w.heap.size+1+1]?=_):=aa HM2.out HB5.out;have HN0:Hid (w5.heap[w.heap.size]?=_):=aa HM0.out HB5.out;have HB6:Hid (Below w.heap.size w w5):=HB4.out.trans (HB5.out.mono HB4.out.size);have step:Hid (qy w w5 x O L C a b xi oi li ci):=⟨HN1.out,HN2.out,HN0.out,HB6.out⟩;clear HM1 HM2 HM0 HB4 HB5 HL2 HN1 HN2 HN0 HB6 HD;have gx:=hlt
    cases t1:lessT xi (x a)<;>cases t2:lessT (x b) xi
    all_goals
     have F1:=e1.out;have F2:=e2.out;rw[t1] at F1;rw[t2] at F2;simp only[Bool.false_eq_true,if_false,if_true] at F1 F2;have E1:Hid (bR x _=_):=F1;have E2:Hid (bS x _=_):=F2;clear F1 F2 e1 e2;go_wp2;go_roundw
     case measure=>simp[intOf]
    ·exact⟨3,by omega,rfl,by rw[E1.out];exact step.out.k1,by rw[E2.out];exact step.out.k2,step.out.k0,step.out.hb⟩
    ·refine⟨3,by omega,rfl,by rw[E1.out];exact aD step.out.k1 (by omega),?_,aD step.out.k0 (by omega),((step.out.hb.setCell (by simp;omega) _).setCell (by simp;omega) _).setCell (by simp;omega) _⟩;rw[E2.out,HX.out.1,HX.out.2.1,HX.out.2.2.1,HX.out.2.2.2];exact aY step.out.k2
    ·refine⟨3,by omega,rfl,?_,by rw[E2.out];exact aD step.out.k2 (by omega),aD step.out.k0 (by omega),((step.out.hb.setCell (by simp) _).setCell (by simp) _).setCell (by simp) _⟩;rw[E1.out,HX.out.1,HX.out.2.1,HX.out.2.2.1,HX.out.2.2.2];exact aY step.out.k1
    ·refine⟨3,by omega,rfl,?_,?_,aD (aD step.out.k0 (by omega)) (by omega),((((((step.out.hb.setCell (by simp) _).setCell (by simp) _).setCell (by simp) _).setCell (by simp;omega) _).setCell (by simp;omega) _).setCell (by simp;omega) _)⟩
     ·rw[E1.out,HX.out.1,HX.out.2.1,HX.out.2.2.1,HX.out.2.2.2];exact aD (aY step.out.k1) (by omega)
     ·rw[E2.out,HX.out.1,HX.out.2.1,HX.out.2.2.1,HX.out.2.2.2];exact aY (aD step.out.k2 (by omega))
end
end Go.Proofs.YtonhpkigoplmaaaGreatDoor
