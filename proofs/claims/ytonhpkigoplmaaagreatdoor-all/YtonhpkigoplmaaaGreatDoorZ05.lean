import Derived.Test.YtonhpkigoplmaaaGreatDoorZ01
set_option maxRecDepth 100000
set_option maxHeartbeats 40000000
namespace Go.Proofs.YtonhpkigoplmaaaGreatDoor
section
open Go.RowKit
def bl (n:Nat):Nat:=if n=0 then 0 else n.log2+1
theorem i8:bl 0=0:=rfl
theorem bt {n:Nat} (h:0<n):2^(bl n-1)≤n∧n<2^bl n∧0<bl n:=by
 have hn:n≠0:=by omega
 unfold bl;rw[if_neg hn];exact⟨by simpa using Nat.log2_self_le hn,Nat.lt_log2_self,by omega⟩
theorem oY {n k:Nat} (h1:2^k≤n) (h2:n<2^(k+1)):bl n=k+1:=by
 have hn:=Nat.lt_of_lt_of_le (Nat.two_pow_pos k) h1;obtain⟨b1,b2,b3⟩:=bt hn;have c1:=Nat.lt_of_le_of_lt b1 h2;have c2:=Nat.lt_of_le_of_lt h1 b2;have d1:=(Nat.pow_lt_pow_iff_right (by decide:1<2)).1 c1;have d2:=(Nat.pow_lt_pow_iff_right (by decide:1<2)).1 c2;omega
theorem FO {t:Nat} (h:0<t):bl (t / 2)+1=bl t:=by
 rcases Nat.lt_or_ge t 2 with h2|h2
 ·have:t=1:=by omega
  subst this;rfl
 ·obtain⟨b1,b2,b3⟩:=bt (show 0<t / 2 by omega);have e:bl (t / 2)=(bl (t / 2)-1)+1:=by omega
  have k1:2^bl (t / 2)=2^(bl (t / 2)-1)*2:=by rw[←Nat.pow_succ];congr 1
  have:=oY (n:=t) (k:=bl (t / 2)) (by omega) (by rw[Nat.pow_succ];omega);omega
theorem GK {l:List Nat} {L:Nat} (hl:l.length=L+1) (hd:∀d∈l,d<16777216) (hpos:0<l.getD L 0):bl (nval l)=24*L+bl (l.getD L 0):=by
 have hs:=mW l L (by omega);have hdrop:l.drop (L+1)=[]:=List.drop_eq_nil_of_le (by omega);rw[hdrop] at hs;simp only[nval,Nat.mul_zero,Nat.add_zero] at hs;have hlow:=jI (l.take L) (fun d hm=>hd d (List.mem_of_mem_take hm));have hll:(l.take L).length=L:=by simp;omega
 rw[hll] at hlow;have e24:(16777216:Nat)=2^24:=rfl;rw[e24,←Nat.pow_mul] at hs hlow;obtain⟨b1,b2,b3⟩:=bt hpos;generalize l.getD L 0=d at*;have h1:2^(24*L)*2^(bl d-1)≤2^(24*L)*d:=Nat.mul_le_mul_left _ b1;have h2:2^(24*L)*(d+1)≤2^(24*L)*2^bl d:=Nat.mul_le_mul_left _ b2;rw[←Nat.pow_add] at h1 h2;rw[Nat.mul_add,Nat.mul_one] at h2
 have:=oY (n:=nval l) (k:=24*L+(bl d-1)) (by omega) (by
  rw[show 24*L+(bl d-1)+1=24*L+bl d by omega];omega)
 omega
theorem ck (a:Nat) (va:Value) (w:World) (ha:aq w va a) (hla:(digits a).length≤1000000):
  ax 161 #[va] w fun e w'=>e= .returned (iV (bl a:Int))∧w'=w:=by
 obtain⟨ao,ca,rfl,hca,hcell⟩:=Dig.open ha;by_cases h0:a=0
 ·subst h0;rw[cK];clear hcell ha hla hca;go_enter Tryz.func161,Tryz.ntmps161;go_wp2
  go_ret
  exact⟨rfl,rfl⟩
 ·have hne:(digits a).length≠0:=fun e=>h0 ((d6 a).1 (List.length_eq_zero_iff.1 e))
  obtain⟨b,off,rfl,hbl,hc⟩:=hcell.resolve_left hne;obtain⟨L,hL⟩:∃L,(digits a).length=L+1:=⟨(digits a).length-1,by omega⟩;have hlast:=nG (eV a) hL;have htop:=GK hL (eZ a) (by omega);rw[bB] at htop;have hcl:=hc L (by omega);have hdl:=cI (eZ a) L;rw[hL] at hla hca⊢;clear hc ha hL hne;generalize(digits a).getD L 0=d at*;have HT:=hid htop;have t0:(((L+1:Nat):Int)==0)=false:=by simp;omega
  clear htop;go_enter Tryz.func161,Tryz.ntmps161;go_wp2
  go_loop [3,4] (fun v3 v4=>∃t j:Nat,t≤d∧v4=iV (t:Int)∧v3=iV ((24*L+j:Nat):Int)∧bl t+j=bl d∧j≤30) (fun _ v4=>(intOf v4).toNat)
  case atStart=>
   refine⟨d,0,Nat.le_refl _,rfl,by go_num,by omega,by omega⟩
  case round=>
   obtain⟨t,j,ht,rfl,rfl,hb,hj⟩:=hrel;have HB:=hid hb;clear hb;by_cases htp:0<t
   ·have hj2:j+1≤30:=by
     have h1:=HB.out;obtain⟨b1,b2,b3⟩:=bt (show 0<d by omega);have:2^(bl d-1)<2^24:=Nat.lt_of_le_of_lt b1 hdl;have:=(Nat.pow_lt_pow_iff_right (by decide:1<2)).1 this;obtain⟨_,_,c3⟩:=bt htp;omega
    go_wp2
    go_round
    case rel=>exact⟨t / 2,j+1,by omega,by go_num,by go_num,by have:=FO htp;have:=HB.out;omega,hj2⟩
    case measure=>simp[intOf];omega
   ·have ht0:t=0:=by omega
    subst ht0;go_wp2
    go_ret
    have:=HB.out;rw[i8] at this;rw[HT.out,show 24*L+bl d=24*L+j by omega];exact⟨rfl,rfl⟩
def dJ (s:Nat):List Nat→List Nat
 |[]=>[]
 |d::r=>(d / 2^s+r.headD 0 % 2^s*2^(24-s))::dJ s r
theorem ir (s:Nat):∀l,(dJ s l).length=l.length
 |[]=>rfl
 |d::r=>by simp[dJ,ir s r]
theorem l6 {s:Nat} (hs:s<24):2^s*2^(24-s)=16777216:=by
 rw[←Nat.pow_add,show s+(24-s)=24 by omega]
theorem xN {s:Nat} (hs:s<24):∀l,nval l % 2^s=l.headD 0 % 2^s
 |[]=>by simp[nval]
 |d::r=>by
  have h:=l6 hs;simp only[nval,List.headD_cons];rw[←h,Nat.mul_assoc,Nat.add_mul_mod_self_left]
theorem tJ {s:Nat} (hs:s<24):∀l,nval (dJ s l)=nval l / 2^s
 |[]=>by simp[nval,dJ]
 |d::r=>by
  have h:=l6 hs;have ih:=tJ hs r;have hm:=xN hs r;simp only[nval,dJ];rw[ih,←hm];have e1:d+16777216*nval r=d+2^s*(2^(24-s)*nval r):=by rw[←Nat.mul_assoc,h]
  rw[e1,Nat.add_mul_div_left _ _ (Nat.two_pow_pos s)];have e2:nval r=2^s*(nval r / 2^s)+nval r % 2^s:=(Nat.div_add_mod _ _).symm;generalize nval r / 2^s=Q at*;generalize nval r % 2^s=R at*;rw[e2,Nat.mul_add,←Nat.mul_assoc (2^(24-s)),Nat.mul_comm (2^(24-s)) (2^s),h,Nat.mul_comm (2^(24-s)) R];omega
theorem yV {s:Nat} (hs:s<24):∀l,(∀d∈l,d<16777216)→∀d∈dJ s l,d<16777216
 |[],_,d,hd=>by simp[dJ] at hd
 |a::r,hl,d,hd=>by
  have h:=l6 hs;simp only[dJ,List.mem_cons] at hd;rcases hd with rfl|hd
  ·have ha:=hl a (by simp)
   have h1:a / 2^s<2^(24-s):=by
    rw[Nat.div_lt_iff_lt_mul (Nat.two_pow_pos s),Nat.mul_comm,h];exact ha
   have h2:r.headD 0 % 2^s<2^s:=Nat.mod_lt _ (Nat.two_pow_pos s);have h3:(r.headD 0 % 2^s+1)*2^(24-s)≤2^s*2^(24-s):=Nat.mul_le_mul_right _ h2;rw[h,Nat.add_mul,Nat.one_mul] at h3;omega
  ·exact yV hs r (fun x hx=>hl x (by simp[hx])) d hd
theorem tV (s:Nat):∀(l:List Nat) (j:Nat),j<l.length→(dJ s l).getD j 0=l.getD j 0 / 2^s+l.getD (j+1) 0 % 2^s*2^(24-s)
 |[],j,h=>by simp at h
 |d::r,0,_=>by
  simp only[dJ,List.getD_cons_zero,List.getD_cons_succ]
  cases r<;>simp
 |d::r,j+1,h=>by
  simp only[dJ,List.getD_cons_succ];exact tV s r j (by simpa using h)
def fU (l:List Nat) (q:Nat):Bool:=decide (nval (l.take q)=0)
theorem Am (l:List Nat) (i:Nat):fU l (i+1)=(fU l i && decide (l.getD i 0=0)):=by
 unfold fU;rw[dj];have hp:0<16777216^i:=Nat.pow_pos (by decide);rw[Bool.eq_iff_iff];simp only[decide_eq_true_eq,Bool.and_eq_true];constructor
 ·intro h;refine⟨by omega,?_⟩;have:16777216^i*l.getD i 0=0:=by omega
  rcases Nat.mul_eq_zero.1 this with h|h
  ·omega
  ·exact h
 ·rintro⟨h1,h2⟩;rw[h1,h2];rfl
theorem tx (l:List Nat) (q:Nat) (hq:q≤l.length):nval l=nval (l.take q)+16777216^q*nval (l.drop q):=by
 conv=>lhs;rw[←List.take_append_drop q l]
 rw[iF];have:(l.take q).length=q:=by simp;omega
 rw[this]
theorem A9 (k:Nat):2^k=16777216^(k / 24)*2^(k % 24):=by
 have e:(16777216:Nat)=2^24:=rfl;rw[e,←Nat.pow_mul,←Nat.pow_add]
 congr 1
 omega
theorem Ek (l:List Nat) (k:Nat) (hl:∀d∈l,d<16777216) (hq:k / 24≤l.length):
  nval l / 2^k=nval (l.drop (k / 24)) / 2^(k % 24)∧(nval l % 2^k=0↔nval (l.take (k / 24))=0∧nval (l.drop (k / 24)) % 2^(k % 24)=0):=by
 have h1:=tx l (k / 24) hq;have h2:=jI (l.take (k / 24)) (fun d hm=>hl d (List.mem_of_mem_take hm));have h3:(l.take (k / 24)).length=k / 24:=by simp;omega
 rw[h3] at h2;have hp:0<16777216^(k / 24):=Nat.pow_pos (by decide);rw[A9 k,h1];generalize 16777216^(k / 24)=P at*;generalize nval (l.take (k / 24))=lo at*;generalize nval (l.drop (k / 24))=hi at*;constructor
 ·rw[←Nat.div_div_eq_div_mul,Nat.add_mul_div_left _ _ hp,Nat.div_eq_of_lt h2,Nat.zero_add]
 ·rw[Nat.mod_mul,Nat.add_mul_mod_self_left,Nat.mod_eq_of_lt h2,Nat.add_mul_div_left _ _ hp,Nat.div_eq_of_lt h2,Nat.zero_add];constructor
  ·intro h;refine⟨by omega,?_⟩;have:P*(hi % 2^(k % 24))=0:=by omega
   rcases Nat.mul_eq_zero.1 this with h|h
   ·omega
   ·exact h
  ·rintro⟨h4,h5⟩;rw[h4,h5];rfl
theorem Ah (l:List Nat) (k:Nat) (hl:∀d∈l,d<16777216) (hq:l.length≤k / 24):nval l / 2^k=0∧(nval l % 2^k=0↔nval l=0):=by
 have h2:=jI l hl;have h3:16777216^l.length≤16777216^(k / 24):=Nat.pow_le_pow_right (by decide) hq;have h4:16777216^(k / 24)*1≤16777216^(k / 24)*2^(k % 24):=Nat.mul_le_mul_left _ Nat.one_le_two_pow;rw[A9 k];have:nval l<16777216^(k / 24)*2^(k % 24):=by omega
 rw[Nat.div_eq_of_lt this,Nat.mod_eq_of_lt this];exact⟨rfl,Iff.rfl⟩
theorem yx {x y s:Nat} (hs:s<24) (hx:x<16777216):x / 2^s+y % 2^s*2^(24-s)<16777216:=by
 have h:=l6 hs
 have h1:x / 2^s<2^(24-s):=by
  rw[Nat.div_lt_iff_lt_mul (Nat.two_pow_pos s),Nat.mul_comm,h];exact hx
 have h2:y % 2^s<2^s:=Nat.mod_lt _ (Nat.two_pow_pos s);have h3:(y % 2^s+1)*2^(24-s)≤2^s*2^(24-s):=Nat.mul_le_mul_right _ h2;rw[h,Nat.add_mul,Nat.one_mul] at h3;omega
theorem AU {x y s p:Nat} (hs:s<24) (hx:x<16777216) (hp:2^s=p):wrap64 ((x:Int) / 2^s+wrap64 ((y:Int) %(p:Int)*2^(24-s)))=((x / 2^s+y % 2^s*2^(24-s):Nat):Int):=by
 subst hp;have hd:=yx (y:=y) hs hx;have e1:(2:Int)^(24-s)=((2^(24-s):Nat):Int):=by rw[Int.natCast_pow];rfl
 have e2:(2:Int)^s=((2^s:Nat):Int):=by rw[Int.natCast_pow];rfl
 rw[e1,e2,←Int.natCast_emod,←Int.natCast_mul,←Int.natCast_ediv];generalize y % 2^s*2^(24-s)=Y at*;generalize x / 2^s=X at*;unfold wrap64;omega
theorem Ax {x s:Nat}:(x:Int) / 2^s=((x / 2^s:Nat):Int):=by
 have e2:(2:Int)^s=((2^s:Nat):Int):=by rw[Int.natCast_pow];rfl
 rw[e2,←Int.natCast_ediv]
theorem EA (l:List Nat) (k:Nat) (va:Value) (w:World) (ha:Dig w va l) (hla:l.length≤1000000) (hk:k≤1000000):
  ax 162 #[va,iV (k:Int)] w fun e w'=>∃v,e= .returned (.tuple #[v,.bool (decide (nval l % 2^k=0))])∧aq w' v (nval l / 2^k)∧Below w.heap.size w w':=by
 have HD:=hid ha.1;obtain⟨ao,ca,rfl,hca,hcell⟩:=Dig.open ha;have HC:=hid hcell;clear ha hcell;obtain⟨i0,hi,hz0,hz1,hz2⟩:=info_parts kO;go_enter Tryz.func162,Tryz.ntmps162;go_wp2
 go_loop [6,7] (fun v6 v7=>∃i:Nat,i≤l.length∧i≤k / 24∧v7=iV (i:Int)∧v6= .bool (fU l i)) (fun _ v7=>l.length-(intOf v7).toNat)
 case atStart=>exact⟨0,by omega,by omega,rfl,by simp[fU,nval]⟩
 case round=>
  obtain⟨i,hil,hik,rfl,rfl⟩:=hrel;by_cases hgo:i<k / 24∧i<l.length
  ·obtain⟨g1,g2⟩:=hgo;obtain⟨b,off,rfl,hb,hc⟩:=HC.out.resolve_left (by omega);have c1:=hc i g2;clear hc;have hzs:=hid (Am l i);have hdl:=cI HD.out i;generalize hd:l.getD i 0=d at*;clear hd
   cases hz:fU l i
   ·rw[hz] at hzs;go_wp2
    go_round
    case rel=>exact⟨i+1,by omega,by omega,by go_num,by rw[hzs.out];rfl⟩
    case measure=>simp[intOf];omega
   ·rw[hz] at hzs;by_cases hd0:d=0
    ·subst hd0;go_wp2
     go_round
     case rel=>exact⟨i+1,by omega,by omega,by go_num,by rw[hzs.out];rfl⟩
     case measure=>simp[intOf];omega
    ·have t1:((d:Int)==0)=false:=by simp;omega
     go_wp2
     go_round
     case rel=>exact⟨i+1,by omega,by omega,by go_num,by rw[hzs.out];simp[hd0]⟩
     case measure=>simp[intOf];omega
  ·by_cases hq:l.length≤k / 24
   ·have hie:i=l.length:=by omega
    subst hie;have hds:=Ah l k HD.out hq;have HDS:=hid hds;clear hds
    have hzz:fU l l.length=decide (nval l % 2^k=0):=by
     unfold fU;rw[List.take_of_length_le ae,decide_eq_decide,HDS.out.2]
    rw[hzz];have fin:aq w (.slice none 0 0) (nval l / 2^k):=by rw[HDS.out.1];exact⟨by simp[cK],Or.inl ⟨rfl,rfl⟩⟩
    have FIN:=hid fin;clear fin hzz HDS hgo;by_cases hlt:l.length<k / 24
    all_goals
     go_wp2;go_ret2;exact⟨.slice none 0 0,rfl,FIN.out,Below.refl _ _⟩
   ·have hie:i=k / 24:=by omega
    subst hie;have hql:k / 24<l.length:=by omega
    obtain⟨b,off,rfl,hb,hc⟩:=HC.out.resolve_left (by omega);have c1:=hc (k / 24) hql;have HC:=hid hc;have hsh:=se k;have hpb:=rQ (Nat.mod_lt k (by decide:0<24));have hpp:0<2^(k % 24):=Nat.two_pow_pos _;have hdl:l.getD (k / 24) 0<16777216:=cI HD.out _;have hdv:=Ek l k HD.out (by omega)
    have hhead:(l.drop (k / 24)).headD 0=l.getD (k / 24) 0:=by
     rw[List.drop_eq_getElem_cons hql];simp[List.getD,List.getElem?_eq_getElem hql]
    rw[xN (Nat.mod_lt k (by decide:0<24)),hhead] at hdv;have HV:=hid hdv.1
    have HZ:Hid (decide (nval l % 2^k=0)=(fU l (k / 24) && decide (l.getD (k / 24) 0 % 2^(k % 24)=0))):=by
     show _=_
     unfold fU;rw[Bool.eq_iff_iff];simp only[decide_eq_true_eq,Bool.and_eq_true];exact hdv.2
    clear hc hdv hhead hgo;generalize hd:l.getD (k / 24) 0=d at*;generalize hpe:(2^(k % 24):Nat)=p at*;have HPE:=hid hpe;clear hd hpe
    have three:(fU l (k / 24)=false∧Hid (decide (nval l % 2^k=0)=false))∨(fU l (k / 24)=true∧d % p=0∧Hid (decide (nval l % 2^k=0)=true))∨(fU l (k / 24)=true∧d % p≠0∧Hid (decide (nval l % 2^k=0)=false)):=by
     have:=HZ.out
     cases hz:fU l (k / 24)
     ·left;exact⟨rfl,by show _=_;rw[this,hz];rfl⟩
     ·right;by_cases hdp:d % p=0
      ·left;exact⟨rfl,hdp,by show _=_;rw[this,hz];simp[hdp]⟩
      ·right;exact⟨rfl,hdp,by show _=_;rw[this,hz];simp[hdp]⟩
    clear HZ;rcases three with⟨hz,hres⟩|⟨hz,hdp,hres⟩|⟨hz,hdp,hres⟩;go_wp2_with fail;go_quiet (fail);go_wp2;rotate_left;have t1:((d:Int) %(p:Int)==0)=true:=by rw[beq_iff_eq];omega
    clear hdp;go_wp2_with fail;go_quiet (fail);go_wp2;clear t1;rw[hsh];rotate_left;have t1:((d:Int) %(p:Int)==0)=false:=by rw[beq_eq_false_iff_ne];omega
    clear hdp;go_wp2_with fail;go_quiet (fail);go_wp2;clear t1;rw[hsh];rotate_left
    all_goals
     clear c1 hz hdl
     go_loopw [8,10] (fun v8 v10 wr=>∃j:Nat,k / 24+j≤l.length∧v10=iV ((k / 24+j:Nat):Int)∧wr.ownsRow w.heap.size 3 1 v8 ((dJ (k % 24) (l.drop (k / 24))).take j).length (((dJ (k % 24) (l.drop (k / 24))).take j).map dv)∧Below w.heap.size w wr) (fun _ v10 _=>l.length-(intOf v10).toNat)
     case atStart=>exact⟨0,by omega,by go_num,World.ownsRow_nil _ _ _ _,below_drewN aK _⟩
     case round=>
      obtain⟨j,hjl,rfl,hown,hbr⟩:=hrel;by_cases hj:k / 24+j<l.length
      ·have ca1:=(hbr.cell (p:=⟨b,off+(k / 24+j),none⟩) hb).trans (HC.out (k / 24+j) hj);have ha1:l.getD (k / 24+j) 0<16777216:=cI HD.out _
       have HLJ:Hid (((dJ (k % 24) (l.drop (k / 24))).take j).length≤1000000):=by
        show _≤_
        rw[List.length_take,ir];simp;omega
       have HG:Hid ((dJ (k % 24) (l.drop (k / 24))).getD j 0=l.getD (k / 24+j) 0 / 2^(k % 24)+l.getD (k / 24+j+1) 0 % 2^(k % 24)*2^(24-k % 24)):=by
        show _=_
        rw[tV _ _ _ (by simp;omega)];have e1:(l.drop (k / 24)).getD j 0=l.getD (k / 24+j) 0:=by simp[List.getD]
        have e2:(l.drop (k / 24)).getD (j+1) 0=l.getD (k / 24+j+1) 0:=by simp[List.getD,Nat.add_assoc]
        rw[e1,e2]
       have HTK:Hid ((dJ (k % 24) (l.drop (k / 24))).take j++[(dJ (k % 24) (l.drop (k / 24))).getD j 0]=(dJ (k % 24) (l.drop (k / 24))).take (j+1)):=(gQ _ j (by rw[ir];simp;omega)).symm;generalize hD:(dJ (k % 24) (l.drop (k / 24))).getD j 0=D at*;generalize hT:(dJ (k % 24) (l.drop (k / 24))).take j=T at*;clear hD hT;by_cases hj2:k / 24+j+1<l.length
       ·have ca2:=(hbr.cell (p:=⟨b,off+(k / 24+j+1),none⟩) hb).trans (HC.out (k / 24+j+1) hj2);have ha2:l.getD (k / 24+j+1) 0<16777216:=cI HD.out _;generalize l.getD (k / 24+j) 0=x at*;generalize l.getD (k / 24+j+1) 0=y at*
        have HWD:Hid (wrap64 ((x:Int) / 2^(k % 24)+wrap64 ((y:Int) %(p:Int)*2^(24-k % 24)))=(D:Int)):=by
         show _=_
         rw[AU (Nat.mod_lt k (by decide:0<24)) ha1 HPE.out,HG.out]
        go_wp2_with fail;go_quiet (fail);rw[HWD.out];clear ca1 ca2 HWD HG
        go_wp2_with (first
         |(at_builtin;refine wpList_append_own _ rfl _ _ 40 rfl w.heap.size 3 i0 (iV 0) 1 8 Tryz.underlying40 hi hz0 hz1 hz2 rfl (by decide) _ _ _ rfl ((show World.ownsRow (wr.drewN nq) _ _ _ _ _ _ from hown).alloc _) ⟨wr.heap.size,0,none⟩ 1 1 [iV (D:Int)] rfl rfl (by intro j' u hj';match j',hj' with|0,hj'=>simp at hj';subst hj';simp only[Addr.add,if_true];exact(bf (b:=wr.heap.size) (heap_alloc_new (wr.drewN nq) _) 0).trans rfl) (by intro u hu;simp at hu;subst hu;rfl) (by unfold maxLen;have:=HLJ.out;omega) (by have:=HLJ.out;omega) (by have:=hbr.size;simp;omega) ?_)
         |go_in)
        ·intro v' w1 hown' hgrow _;have R:=dD (show World.ownsRow (wr.drewN nq) _ _ _ _ _ _ from hown) (below_drewN hbr nq) ae hown' (d:=D) rfl hgrow;rw[HTK.out] at R;clear hown' hgrow hown hbr;go_wp2;go_roundw
         case rel=>exact⟨j+1,by omega,by go_num,R.1,R.2⟩
         case measure=>simp[intOf];omega
       ·have hy0:l.getD (k / 24+j+1) 0=0:=by simp[List.getD,List.getElem?_eq_none (Nat.le_of_not_lt hj2)]
        rw[hy0] at HG;clear hy0;generalize l.getD (k / 24+j) 0=x at*
        have HWD:(x:Int) / 2^(k % 24)=(D:Int):=by
         rw[Ax,HG.out];simp
        clear HG
        go_wp2_with (first
         |(at_builtin;refine wpList_append_own _ rfl _ _ 40 rfl w.heap.size 3 i0 (iV 0) 1 8 Tryz.underlying40 hi hz0 hz1 hz2 rfl (by decide) _ _ _ rfl ((show World.ownsRow wr _ _ _ _ _ _ from hown).alloc _) ⟨wr.heap.size,0,none⟩ 1 1 [iV (D:Int)] rfl rfl (by intro j' u hj';match j',hj' with|0,hj'=>simp at hj';subst hj';simp[Addr.add]) (by intro u hu;simp at hu;subst hu;rfl) (by unfold maxLen;have:=HLJ.out;omega) (by have:=HLJ.out;omega) (by have:=hbr.size;simp;omega) ?_)
         |go_in)
        ·intro v' w1 hown' hgrow _;have R:=dD (show World.ownsRow wr _ _ _ _ _ _ from hown) hbr ae hown' (d:=D) rfl hgrow;rw[HTK.out] at R;clear hown' hgrow hown hbr;go_wp2;go_roundw
         case rel=>exact⟨j+1,by omega,by go_num,R.1,R.2⟩
         case measure=>simp[intOf];omega
      ·have hje:k / 24+j=l.length:=by omega
       have hfull:(dJ (k % 24) (l.drop (k / 24))).take j=dJ (k % 24) (l.drop (k / 24)):=List.take_of_length_le (by rw[ir];simp;omega);rw[hfull] at hown;have hdd:=yV (Nat.mod_lt k (by decide:0<24)) (l.drop (k / 24)) (fun d hd=>HD.out d (List.mem_of_mem_drop hd));have hlen:Hid ((dJ (k % 24) (l.drop (k / 24))).length≤2000000):=by show _≤_;rw[ir];simp;omega
       have HDG:=Dig.of_owns hown hdd;have HDG:=hid HDG
       have HNV:Hid (nval (dJ (k % 24) (l.drop (k / 24)))=nval l / 2^k):=by
        show _=_
        rw[tJ (Nat.mod_lt k (by decide:0<24)),HPE.out,HV.out]
       clear hown hdd hfull hje;go_wp2_with fail;refine(qG _ _ _ HDG.out hlen.out).mono ?_;rintro e w' ⟨v',rfl,hN,rfl⟩;rw[HNV.out] at hN;have HN:=hid hN;clear hN HDG;go_wp2_with fail;go_ret2;rw[hres.out];exact⟨_,rfl,HN.out,hbr⟩
theorem gn (a k:Nat) (va:Value) (w:World) (ha:aq w va a) (hla:(digits a).length≤1000000) (hk:k≤1000000):
  ax 162 #[va,iV (k:Int)] w fun e w'=>∃v,e= .returned (.tuple #[v,.bool (decide (a % 2^k=0))])∧aq w' v (a / 2^k)∧Below w.heap.size w w':=by
 have:=EA _ k va w ha hla hk;rwa [bB] at this
end
end Go.Proofs.YtonhpkigoplmaaaGreatDoor
