import Derived.WalkKit
import Derived.Test.YtonhpkigoplmaaaGreatDoorProg
import Derived.WalkLawsBesides
import Derived.Outline
import Derived.BigQuiet
import Derived.WalkSmall
import Derived.Deep.QuietTactic
import Derived.Laws.OwnMore
import Derived.RegionTactic
import Derived.ChangeAlike
set_option maxRecDepth 100000
set_option maxHeartbeats 40000000
namespace Go.Proofs.YtonhpkigoplmaaaGreatDoor
section
def nval:List Nat→Nat
 |[]=>0
 |d::r=>d+16777216*nval r
def fe:Nat→Nat→List Nat
 |0,_=>[]
 |f+1,n=>if n=0 then[] else n % 16777216::fe f (n / 16777216)
def digits (n:Nat):List Nat:=fe n n
theorem o8:∀f n,n≤f→nval (fe f n)=n
 |0,n,h=>by simp[fe,nval];omega
 |f+1,n,h=>by
  unfold fe;split
  ·rename_i h0;simp[nval,h0]
  ·simp only[nval];rw[o8 f (n / 16777216) (by omega)];omega
theorem bB (n:Nat):nval (digits n)=n:=o8 n n (Nat.le_refl _)
theorem yY:∀f n d,d∈fe f n→d<16777216
 |0,n,d,h=>by simp[fe] at h
 |f+1,n,d,h=>by
  unfold fe at h;split at h
  ·simp at h
  ·rcases List.mem_cons.1 h with rfl|h
   ·omega
   ·exact yY f _ d h
theorem eZ (n d:Nat) (h:d∈digits n):d<16777216:=yY n n d h
def bV (l:List Nat):Prop:=l.getLast?≠some 0
theorem om:bV []:=by simp[bV]
theorem kK {d:Nat} {r:List Nat} (hr:r≠[]) (h:bV (d::r)):bV r:=by
 unfold bV at*
 cases r with
 |nil=>exact absurd rfl hr
 |cons a t=>simpa[List.getLast?_cons] using h
theorem nM:∀l,l≠[]→bV l→0<nval l
 |[],h,_=>absurd rfl h
 |[d],_,h=>by
  simp[bV] at h;simp[nval];omega
 |d::e::r,_,h=>by
  have:=nM (e::r) (by simp) (kK (by simp) h);rw[nval];omega
theorem zp:∀l f,(∀d∈l,d<16777216)→bV l→nval l≤f→fe f (nval l)=l
 |[],f,_,_,_=>by cases f<;>simp[fe,nval]
 |d::r,f,hd,hc,hf=>by
  have hd0:=hd d (by simp);have hpos:=nM (d::r) (by simp) hc;have hn:nval (d::r)=d+16777216*nval r:=rfl
  cases f with
  |zero=>omega
  |succ f=>
   unfold fe;rw[if_neg (by omega)];have e1:nval (d::r) % 16777216=d:=by omega
   have e2:nval (d::r) / 16777216=nval r:=by omega
   rw[e1,e2];by_cases hr:r=[]
   ·subst hr;simp only[nval]
    cases f<;>simp[fe]
   ·rw[zp r f (fun x hx=>hd x (by simp[hx])) (kK hr hc) (by
     have:=nM r hr (kK hr hc);omega)]
theorem ki (l:List Nat) (hd:∀d∈l,d<16777216) (hc:bV l):digits (nval l)=l:=zp l _ hd hc (Nat.le_refl _)
theorem sC:∀f n,n≤f→bV (fe f n)
 |0,n,_=>by simp[fe,bV]
 |f+1,n,h=>by
  unfold fe;split
  ·exact om
  ·rename_i h0
   by_cases hz:n / 16777216=0
   ·rw[hz];have:fe f 0=[]:=by cases f<;>simp[fe]
    rw[this];simp[bV];omega
   ·have hc:=sC f (n / 16777216) (by omega)
    have hne:fe f (n / 16777216)≠[]:=fun e=>by
     have:=o8 f (n / 16777216) (by omega);rw[e] at this;simp[nval] at this;omega
    unfold bV at*
    cases he:fe f (n / 16777216) with
    |nil=>exact absurd he hne
    |cons a t=>rw[he] at hc;simpa[List.getLast?_cons] using hc
theorem eV (n:Nat):bV (digits n):=sC n n (Nat.le_refl _)
theorem cK:digits 0=[]:=rfl
theorem d6 (n:Nat):digits n=[]↔n=0:=by
 constructor
 ·intro h;have:=bB n;rw[h] at this;simpa[nval] using this.symm
 ·rintro rfl;rfl
theorem iF:∀a b,nval (a++b)=nval a+16777216^a.length*nval b
 |[],b=>by simp[nval]
 |d::r,b=>by
  simp only[List.cons_append,nval,iF r b,List.length_cons,Nat.pow_succ];rw[Nat.mul_add,Nat.mul_comm (16777216^r.length) 16777216,Nat.mul_assoc];omega
theorem jI:∀l,(∀d∈l,d<16777216)→nval l<16777216^l.length
 |[],_=>by simp[nval]
 |d::r,h=>by
  have h1:=jI r (fun x hx=>h x (by simp[hx]));have h2:=h d (by simp);simp only[nval,List.length_cons,Nat.pow_succ];omega
theorem zO {l:List Nat} (hl:l≠[]) (hc:bV l):16777216^(l.length-1)≤nval l:=by
 induction l with
 |nil=>exact absurd rfl hl
 |cons d r ih=>
  by_cases hr:r=[]
  ·subst hr;have:=nM [d] (by simp) hc;show 1≤nval [d];omega
  ·have h1:=ih hr (kK hr hc);have hlen:r.length≠0:=fun e=>hr (List.length_eq_zero_iff.1 e)
   have e:(d::r).length-1=(r.length-1)+1:=by simp;omega
   rw[e,Nat.pow_succ];simp only[nval];omega
theorem dO {n k:Nat} (h:n<16777216^k):(digits n).length≤k:=by
 by_cases h0:digits n=[]
 ·simp[h0]
 ·have:=zO h0 (eV n);rw[bB] at this;have h2:=Nat.lt_of_le_of_lt this h;have:=(Nat.pow_lt_pow_iff_right (by decide:1<16777216)).1 h2;omega
theorem jh {n k:Nat} (h:n<2^k):(digits n).length≤k / 24+1:=by
 apply dO;have e:(16777216:Nat)=2^24:=rfl;rw[e,←Nat.pow_mul];exact Nat.lt_of_lt_of_le h (Nat.pow_le_pow_right (by decide) (by omega))
theorem dL (n:Nat):n<16777216^(digits n).length:=by
 have:=jI (digits n) (eZ n);rwa [bB] at this
end
section
open Go.RowKit
abbrev ap:=Bool×Nat×Int
abbrev ax (f:Nat) (a:Array Value) (w:World) (R:Ending→World→Prop):Prop:=Calls Tryz.prog f a w R
abbrev aL (a:Addr):Value:= .iface 229 (.pointer (some a))
abbrev aw (f:Nat) (a:Array Value) (w:World) (v:Value):Prop:=Calls Tryz.prog f a w fun e w'=>e= .returned v∧Below w.heap.size w w'
abbrev gU (x y:Nat):Value:= .agg #[.int .u64 (x:Int),.int .u64 (y:Int)]
abbrev gF (x y:Nat):Value:= .agg #[.float .f64 x,.float .f64 y]
abbrev nV (x:Nat):Value:= .int .u64 (x:Int)
abbrev fV (x:Nat):Value:= .float .f64 x
abbrev uV (x:Int):Value:= .int .u64 x
abbrev iV (x:Int):Value:= .int .i64 x
theorem ae {n:Nat}:n≤n:=Nat.le_refl n
theorem aK {n:Nat} {w:World}:Below n w w:=Below.refl n w
theorem aJ {w:World} {o:Obj}:Below w.heap.size w (w.alloc o):=(Below.refl _ _).alloc (Nat.le_refl _) _
theorem kO:(Tryz.prog.info? 3).map (fun i=>(i.zero,i.size,i.bytes))=some (some (iV 0),1,8):=by kernel_rfl
def dv (d:Nat):Value:=iV (d:Int)
def Dig (w:World) (v:Value) (l:List Nat):Prop:=
 (∀d∈l,d<16777216)∧((v= .slice none 0 0∧l=[])∨∃b off cap cur,v= .slice (some ⟨b,off,none⟩) l.length cap∧w.heap[b]?=some (.cells cur 3 (0,0))∧l.length≤cap∧∀i,i<l.length→cur[off+i]?=some (iV (l.getD i 0:Nat)))
def aq (w:World) (v:Value) (n:Nat):Prop:=Dig w v (digits n)
def aU (w w':World):Prop:=∀(g:Nat) (cur:Array Value),w.heap[g]?=some (Obj.cells cur 3 (0,0))→w'.heap[g]?=some (Obj.cells cur 3 (0,0))
theorem aU.refl (w:World):aU w w:=fun _ _ h=>h
theorem aU.trans {a b c:World} (h:aU a b) (k:aU b c):aU a c:=fun g cur hg=>k g cur (h g cur hg)
theorem aU.below {w w':World} {B:Nat} (hb:Below B w w') (hB:w.heap.size≤B):aU w w':=fun g cur hg=>by
 have:=(Array.getElem?_eq_some_iff.1 hg).1;rw[hb.block g (by omega)];exact hg
theorem aU.alloc (w:World) (o:Obj):aU w (w.alloc o):=aU.below (aK.alloc ae o) ae
theorem aU.drew (w:World):aU w w.drew:=fun _ _ h=>h
theorem aU.drewN (w:World) (n:Nat):aU w (w.drewN n):=fun _ _ h=>h
theorem Dig.keeps {w w':World} {v:Value} {l:List Nat} (h:Dig w v l) (k:aU w w'):Dig w' v l:=by
 obtain⟨h1,h2⟩:=h;refine⟨h1,?_⟩;rcases h2 with h2|⟨b,off,cap,cur,h3,h4,h6,h5⟩
 ·exact Or.inl h2
 ·exact Or.inr ⟨b,off,cap,cur,h3,k _ _ h4,h6,h5⟩
theorem aq.keeps {w w':World} {v:Value} {n:Nat} (h:aq w v n) (k:aU w w'):aq w' v n:=Dig.keeps h k
theorem Dig.below {w w':World} {v:Value} {l:List Nat} {B:Nat} (h:Dig w v l) (hb:Below B w w') (hB:w.heap.size≤B):Dig w' v l:=h.keeps (aU.below hb hB)
theorem hid {p:Prop} (h:p):Hid p:=h
theorem aq.below {w w':World} {v:Value} {n:Nat} {B:Nat} (h:aq w v n) (hb:Below B w w') (hB:w.heap.size≤B):aq w' v n:=Dig.below h hb hB
theorem aq.al {w:World} {v:Value} {n:Nat} (h:aq w v n) (o:Obj):aq (w.alloc o) v n:=h.below aJ ae
theorem Dig.of_owns {w:World} {v:Value} {l:List Nat} {B:Nat} (h:w.ownsRow B 3 1 v l.length (l.map dv)) (hd:∀d∈l,d<16777216):Dig w v l:=by
 refine⟨hd,?_⟩;obtain⟨_,h2⟩:=h;rcases h2 with⟨rfl,h0⟩|⟨g,cap,cur,rfl,hg,hh,hn,hcap,hs,ht⟩
 ·exact Or.inl ⟨rfl,List.length_eq_zero_iff.1 h0⟩
 ·refine Or.inr ⟨g,0,cap,cur,rfl,hh,hn,fun i hi=>?_⟩;have:=congrArg (fun x=>x[i]?) ht;simp only[Nat.mul_one,List.getElem?_take,hi,if_true,Array.getElem?_toList,List.getElem?_map] at this;rw[Nat.zero_add,this];simp[List.getElem?_eq_getElem hi,dv]
theorem bf {w:World} {b:Nat} {cur:Array Value} {t:TypeId} {fz:Nat×Nat} (h:w.heap[b]?=some (.cells cur t fz)) (o:Nat):w.cell? ⟨b,o,none⟩=cur[o]?:=by simp[World.cell?,h]
theorem dD {B:Nat} {w wr w1:World} {v v':Value} {l:List Nat} {d:Nat} {z:Int} {X:Obj} (hown:wr.ownsRow B 3 1 v l.length (l.map dv)) (hb:Below B w wr) (hB:B≤w.heap.size)
  (hown':w1.ownsRow B 3 1 v' (l.length+1) (l.map dv++[iV z])) (hz:z=(d:Int)) (hgrow:(wr.alloc X).grownBy w1 v.ownBlock):
  w1.ownsRow B 3 1 v' (l++[d]).length ((l++[d]).map dv)∧Below B w w1:=by
 subst hz;have hs:=hb.size;refine⟨by simpa[dv] using hown',?_⟩;exact(hb.alloc (by omega) X).grown hgrow (by simp;omega) (fun k hk=>(hown.lt k hk).1)
theorem lQ (l:List Nat) (d:Nat):nval (l++[d])=nval l+16777216^l.length*d:=by
 rw[iF];simp[nval]
theorem nW (l:List Nat) (m:Nat):nval (l++[m % 16777216])+16777216^(l++[m % 16777216]).length*(m / 16777216)=nval l+16777216^l.length*m:=by
 rw[lQ];have e:(l++[m % 16777216]).length=l.length+1:=by simp
 rw[e,Nat.pow_succ];generalize 16777216^l.length=P;have h:P*m=P*(m % 16777216)+P*(16777216*(m / 16777216)):=by rw[←Nat.mul_add,Nat.mod_add_div]
 rw[h,Nat.mul_assoc];omega
theorem nQ {l:List Nat} {d:Nat} (h:d≠0):bV (l++[d]):=by simp[bV,h]
theorem Fs {l:List Nat} {m n:Nat} (h:nval l+16777216^l.length*m=n) (hm:0<m) (hn:n<9223372036854775808):l.length≤2:=by
 rcases Nat.lt_or_ge l.length 3 with h'|h'
 ·omega
 ·have h1:16777216^3≤16777216^l.length:=Nat.pow_le_pow_right (by decide) h';have h2:16777216^l.length*1≤16777216^l.length*m:=Nat.mul_le_mul_left _ hm;omega
theorem dG (n:Nat) (w:World) (hn:n<9223372036854775808):
  ax 114 #[iV (n:Int)] w fun e w'=>∃v,e= .returned v∧aq w' v n∧Below w.heap.size w w':=by
 obtain⟨i0,hi,hz0,hz1,hz2⟩:=info_parts kO;go_enter Tryz.func114,Tryz.ntmps114;go_wp2
 go_loopw [0,3] (fun x v wr=>∃(m:Nat) (l:List Nat),x=iV (m:Int)∧m<9223372036854775808∧wr.ownsRow w.heap.size 3 1 v l.length (l.map dv)∧Below w.heap.size w wr∧(∀d∈l,d<16777216)∧nval l+16777216^l.length*m=n∧(m=0→bV l))
  (fun x _ _=>(intOf x).toNat)
 case atStart=>exact⟨n,[],rfl,hn,World.ownsRow_nil _ _ _ _,Below.refl _ _,by simp,by simp[nval],fun _=>om⟩
 case round=>
  obtain⟨m,l,rfl,hm,hown,hb,hd,hv,hc⟩:=hrel;have HV:=hid hv;have HC:=hid hc;have HD:=hid hd;clear hv hc hd;by_cases h0:0<m
  ·have hle:=Fs HV.out h0 hn
   go_wp2_with (first
    |(at_builtin;refine wpList_append_own _ rfl _ _ 40 rfl w.heap.size 3 i0 (iV 0) 1 8 Tryz.underlying40 hi hz0 hz1 hz2 rfl (by decide) _ _ _ rfl (hown.alloc _) ⟨wr.heap.size,0,none⟩ 1 1 [iV ((m % 16777216:Nat):Int)] rfl rfl ?c1 ?c2 ?c3 ?c4 ?c5 ?_)
    |go_in)
   case c1=>
    intro j u hj
    match j,hj with
    |0,hj=>simp at hj;subst hj;simp[Addr.add]
   case c2=>intro u hu;simp at hu;subst hu;rfl
   case c3=>unfold maxLen;omega
   case c4=>omega
   case c5=>have:=hb.size;simp;omega
   ·intro v' w1 hown' hgrow _;have R:=dD hown hb ae hown' (d:=m % 16777216) (by omega) hgrow;clear hown' hgrow hown hb;go_wp2;go_roundw
    case rel=>
     refine⟨m / 16777216,l++[m % 16777216],by go_num,by omega,R.1,R.2,?_,?_,fun h=>nQ (by omega)⟩
     ·intro d hd;rcases List.mem_append.1 hd with h|h
      ·exact HD.out d h
      ·simp at h;omega
     ·rw[nW];exact HV.out
    case measure=>simp[intOf];omega
  ·have hm0:m=0:=by omega
   subst hm0;go_wp2_with fail
   go_ret
   refine⟨_,rfl,?_,hb⟩
   have e:digits n=l:=by
    have:=HV.out;rw[Nat.mul_zero,Nat.add_zero] at this;rw[←this];exact ki l HD.out (HC.out trivial)
   unfold aq;rw[e];exact Dig.of_owns hown HD.out
theorem gQ (l:List Nat) (j:Nat) (h:j<l.length):l.take (j+1)=l.take j++[l.getD j 0]:=by
 rw[List.take_succ_eq_append_getElem h];simp[List.getD,List.getElem?_eq_getElem h]
theorem Dj {l:List Nat} {j:Nat} (h:nval (l.take (j+1))=nval l) (hj:j+1≤l.length) (hz:l.getD j 0=0):nval (l.take j)=nval l:=by
 rw[gQ l j hj,lQ,hz] at h;omega
theorem tS {l:List Nat} {k:Nat} (h:nval (l.take k)=nval l) (hd:∀d∈l,d<16777216) (hk:k≤l.length) (hz:k=0∨l.getD (k-1) 0≠0):digits (nval l)=l.take k:=by
 rw[←h];refine ki _ (fun d hm=>hd d (List.mem_of_mem_take hm)) ?_;rcases hz with rfl|hz
 ·simp[bV]
 ·rcases Nat.eq_zero_or_pos k with rfl|hp
  ·simp[bV]
  ·obtain⟨j,rfl⟩:∃j,k=j+1:=⟨k-1,by omega⟩;rw[gQ l j hk];exact nQ (by simpa using hz)
theorem vk {w:World} {l:List Nat} {b off cap k:Nat} {cur:Array Value} (hbl:w.heap[b]?=some (.cells cur 3 (0,0))) (hcap:l.length≤cap) (hk:k≤l.length) (hd:∀d∈l,d<16777216)
  (hcell:∀i,i<l.length→cur[off+i]?=some (iV (l.getD i 0:Nat))):Dig w (.slice (some ⟨b,off,none⟩) k cap) (l.take k):=by
 have hl:(l.take k).length=k:=by simp;omega
 refine⟨fun d hm=>hd d (List.mem_of_mem_take hm),Or.inr ⟨b,off,cap,cur,by rw[hl],hbl,by rw[hl];omega,fun i hi=>?_⟩⟩;rw[hl] at hi;rw[hcell i (by omega)];simp[List.getD,hi]
theorem qG (l:List Nat) (v:Value) (w:World) (hD:Dig w v l) (hlen:l.length≤2000000):
  ax 164 #[v] w fun e w'=>∃v',e= .returned v'∧aq w v' (nval l)∧w'=w:=by
 obtain⟨hd,hD⟩:=hD;rcases hD with⟨rfl,rfl⟩|⟨b,off,cap,cur,rfl,hbl,hcap,hcell⟩
 ·go_enter Tryz.func164,Tryz.ntmps164;go_wp2;refine wp_loop_rounds 1 ?_;rw[rounds_succ];go_wp2
  go_ret
  exact⟨_,rfl,⟨by simp[nval,cK],Or.inl ⟨rfl,rfl⟩⟩,rfl⟩
 ·have HD:=hid hd;clear hd;have HC:=hid hcell;have HBL:=hid hbl;clear hcell hbl;go_enter Tryz.func164,Tryz.ntmps164;go_wp2
  go_loop [3] (fun x=>∃k:Nat,k≤l.length∧x=iV (k:Int)∧nval (l.take k)=nval l) (fun x=>(intOf x).toNat)
  case atStart=>exact⟨l.length,Nat.le_refl _,rfl,by rw[List.take_length]⟩
  case round=>
   obtain⟨k,hk,rfl,hv⟩:=hrel;have HV:=hid hv;clear hv;by_cases hk0:k=0
   ·subst hk0;go_wp2
    go_ret
    refine⟨_,rfl,?_,rfl⟩;have:=tS HV.out HD.out (by omega) (Or.inl rfl);unfold aq;rw[this];exact vk HBL.out hcap (by omega) HD.out HC.out
   ·obtain⟨j,rfl⟩:∃j,k=j+1:=⟨k-1,by omega⟩;have hc:=(bf HBL.out (off+j)).trans (HC.out j (by omega));generalize hdj:l.getD j 0=d at hc;have Hdj:=hid hdj;clear hdj;by_cases hz:d=0
    ·subst hz;go_wp2
     go_round
     case rel=>exact⟨j,by omega,by go_num,Dj HV.out hk Hdj.out⟩
     case measure=>simp[intOf]
    ·have hz':((d:Int)==0)=false:=by simp;omega
     go_wp2
     go_ret
     refine⟨_,rfl,?_,rfl⟩;have:=tS HV.out HD.out hk (Or.inr (by rw[show j+1-1=j from rfl,Hdj.out];exact hz));unfold aq;rw[this];exact vk HBL.out hcap hk HD.out HC.out
def cmpI (a b:Nat):Int:=if a<b then -1 else if a=b then 0 else 1
theorem oT {a b:Nat} (h:(digits a).length<(digits b).length):a<b:=by
 have h1:=dL a;have hb:digits b≠[]:=fun e=>by rw[e] at h;simp at h
 have h2:=zO hb (eV b);rw[bB] at h2;have h3:16777216^(digits a).length≤16777216^((digits b).length-1):=Nat.pow_le_pow_right (by decide) (by omega);omega
theorem mW (l:List Nat) (i:Nat) (h:i<l.length):nval l=nval (l.take i)+16777216^i*(l.getD i 0+16777216*nval (l.drop (i+1))):=by
 have e:l=l.take i++(l.getD i 0::l.drop (i+1)):=by
  have:l.drop i=l.getD i 0::l.drop (i+1):=by
   rw[List.drop_eq_getElem_cons h];simp[List.getD,List.getElem?_eq_getElem h]
  rw[←this,List.take_append_drop]
 conv=>lhs;rw[e]
 rw[iF];simp only[nval,List.length_take];rw[Nat.min_eq_left (Nat.le_of_lt h)]
theorem BF {x y:List Nat} {i:Nat} (hx:i<x.length) (hy:i<y.length) (hdx:∀d∈x,d<16777216) (ht:x.drop (i+1)=y.drop (i+1)) (hlt:x.getD i 0<y.getD i 0):nval x<nval y:=by
 rw[mW x i hx,mW y i hy,ht];have h1:=jI (x.take i) (fun d hm=>hdx d (List.mem_of_mem_take hm));have hl:(x.take i).length=i:=by simp;omega
 rw[hl] at h1;have h2:16777216^i*(x.getD i 0+16777216*nval (y.drop (i+1))+1)≤16777216^i*(y.getD i 0+16777216*nval (y.drop (i+1))):=Nat.mul_le_mul_left _ (by omega);rw[Nat.mul_add _ _ 1] at h2;omega
theorem Cv {x y:List Nat} {j:Nat} (hx:j<x.length) (hy:j<y.length) (ht:x.drop (j+1)=y.drop (j+1)) (he:x.getD j 0=y.getD j 0):x.drop j=y.drop j:=by
 rw[List.drop_eq_getElem_cons hx,List.drop_eq_getElem_cons hy,ht];simp only[List.getD,List.getElem?_eq_getElem hx,List.getElem?_eq_getElem hy,Option.getD_some] at he;rw[he]
theorem Dig.open {w:World} {v:Value} {l:List Nat} (h:Dig w v l):∃ao cap,v= .slice ao l.length cap∧l.length≤cap∧(l.length=0∨∃b off,ao=some ⟨b,off,none⟩∧b<w.heap.size∧∀i,i<l.length→w.cell? ⟨b,off+i,none⟩=some (iV (l.getD i 0:Nat))):=by
 obtain⟨_,h⟩:=h;rcases h with⟨rfl,rfl⟩|⟨b,off,cap,cur,rfl,h1,h2,h3⟩
 ·exact⟨none,0,rfl,by simp,Or.inl rfl⟩
 ·exact⟨_,_,rfl,h2,Or.inr ⟨b,off,rfl,(Array.getElem?_eq_some_iff.1 h1).1,fun i hi=>(bf h1 _).trans (h3 i hi)⟩⟩
theorem GI (x y:List Nat) (va vb:Value) (w:World) (hx:Dig w va x) (hy:Dig w vb y) (_hlx:x.length≤1000000) (_hly:y.length≤1000000) (h:x.length≠y.length):
  aw 118 #[va,vb] w (iV (if x.length<y.length then -1 else 1)):=by
 obtain⟨ao,ca,rfl,hca,ha⟩:=hx.open;obtain⟨bo,cb,rfl,hcb,hb⟩:=hy.open;clear ha hb hx hy;have h1:((x.length:Int) !=(y.length:Int))=true:=by rw[bne_iff_ne];omega
 by_cases hl:x.length<y.length
 ·rw[if_pos hl];go_enter Tryz.func118,Tryz.ntmps118;go_wp2
  go_ret
  exact⟨rfl,Below.refl _ _⟩
 ·rw[if_neg hl];go_enter Tryz.func118,Tryz.ntmps118;go_wp2
  go_ret
  exact⟨rfl,Below.refl _ _⟩
theorem Gz (x y:List Nat) (va vb:Value) (w:World) (hx:Dig w va x) (hy:Dig w vb y) (hlx:x.length≤1000000) (h:x.length=y.length):
  aw 118 #[va,vb] w (iV (cmpI (nval x) (nval y))):=by
 have hdx:=hx.1;have hdy:=hy.1;obtain⟨ao,ca,rfl,hca,ha⟩:=hx.open;obtain⟨bo,cb,rfl,hcb,hb⟩:=hy.open;clear hx hy;obtain⟨n,hn⟩:∃n,y.length=n:=⟨_,rfl⟩;rw[h] at hlx hca ha⊢;rw[hn] at h hlx hca ha hcb hb⊢;have HX:=hid h;have HY:=hid hn;have HDX:=hid hdx;have HDY:=hid hdy;clear h hn hdx hdy;by_cases hx0:n=0
 ·subst hx0;have hx:=List.length_eq_zero_iff.1 HX.out;have hy:=List.length_eq_zero_iff.1 HY.out;subst hx hy;clear ha hb HX HY HDX HDY;go_enter Tryz.func118,Tryz.ntmps118;go_wp2;refine wp_loop_rounds 1 ?_;rw[rounds_succ];go_wp2
  go_ret
  exact⟨rfl,Below.refl _ _⟩
 ·obtain⟨b1,o1,rfl,hb1,hc1⟩:=ha.resolve_left hx0;obtain⟨b2,o2,rfl,hb2,hc2⟩:=hb.resolve_left hx0;clear ha hb;have HC1:=hid hc1;have HC2:=hid hc2;clear hc1 hc2;go_enter Tryz.func118,Tryz.ntmps118;go_wp2
  go_loopw [5] (fun v wr=>∃k:Nat,k≤n∧v=iV ((k:Int)-1)∧x.drop k=y.drop k∧Below w.heap.size w wr) (fun v _=>(intOf v+1).toNat)
  case atStart=>exact⟨n,Nat.le_refl _,rfl,by rw[List.drop_of_length_le (by rw[HX.out];exact Nat.le_refl _),List.drop_of_length_le (by rw[HY.out];exact Nat.le_refl _)],Below.refl _ _⟩
  case round=>
   obtain⟨k,hk,rfl,ht,hbr⟩:=hrel;have HT:=hid ht;clear ht;by_cases hk0:k=0
   ·subst hk0;go_wp2
    go_ret
    have e:x=y:=by simpa using HT.out
    exact⟨by rw[e];simp[cmpI],hbr⟩
   ·obtain⟨j,rfl⟩:∃j,k=j+1:=⟨k-1,by omega⟩;rw[show((j+1:Nat):Int)-1=(j:Int) by omega];have c1:=(hbr.cell (p:=⟨b1,o1+j,none⟩) hb1).trans (HC1.out j (by omega));have c2:=(hbr.cell (p:=⟨b2,o2+j,none⟩) hb2).trans (HC2.out j (by omega));have hx1:Hid (j<x.length):=by show j<x.length;rw[HX.out];omega
    have hy1:Hid (j<y.length):=by show j<y.length;rw[HY.out];omega
    generalize hp:x.getD j 0=p at c1;generalize hq:y.getD j 0=q at c2;have HP:=hid hp;have HQ:=hid hq;clear hp hq;rcases Nat.lt_trichotomy p q with hpq|hpq|hpq
    ·have t1:((p:Int) !=(q:Int))=true:=by rw[bne_iff_ne];omega
     go_wp2;go_quiet (fail);go_wp2;go_quiet (fail);go_wp2
     go_ret
     have r:cmpI (nval x) (nval y)=-1:=by
      have:=BF hx1.out hy1.out HDX.out HT.out (by rw[HP.out,HQ.out];exact hpq);unfold cmpI;rw[if_pos this]
     refine⟨by rw[r];rfl,?_⟩
     repeat(first|exact hbr|refine below_drewN ?_ _)
    ·subst hpq;go_wp2;go_quiet (fail);go_wp2;go_roundw
     case rel=>
      refine⟨j,by omega,by go_num,Cv hx1.out hy1.out HT.out (by rw[HP.out,HQ.out]),?_⟩
      repeat(first|exact hbr|refine below_drewN ?_ _)
     case measure=>simp[intOf]
    ·have t1:((p:Int) !=(q:Int))=true:=by rw[bne_iff_ne];omega
     go_wp2;go_quiet (fail);go_wp2;go_quiet (fail);go_wp2
     go_ret
     have r:cmpI (nval x) (nval y)=1:=by
      have:=BF hy1.out hx1.out HDY.out HT.out.symm (by rw[HP.out,HQ.out];exact hpq);unfold cmpI;rw[if_neg (by omega),if_neg (by omega)]
     refine⟨by rw[r];rfl,?_⟩
     repeat(first|exact hbr|refine below_drewN ?_ _)
theorem pG (a b:Nat) (va vb:Value) (w:World) (ha:aq w va a) (hb:aq w vb b) (hla:(digits a).length≤1000000) (hlb:(digits b).length≤1000000):
  aw 118 #[va,vb] w (iV (cmpI a b)):=by
 by_cases h:(digits a).length=(digits b).length
 ·have:=Gz _ _ va vb w ha hb hla h;rwa [bB,bB] at this
 ·have:=GI _ _ va vb w ha hb hla hlb h
  have e:(if(digits a).length<(digits b).length then(-1:Int) else 1)=cmpI a b:=by
   unfold cmpI;by_cases hl:(digits a).length<(digits b).length
   ·rw[if_pos hl,if_pos (oT hl)]
   ·have:=oT (a:=b) (b:=a) (by omega);rw[if_neg hl,if_neg (by omega),if_neg (by omega)]
  rwa [e] at this
theorem dj (x:List Nat) (i:Nat):nval (x.take (i+1))=nval (x.take i)+16777216^i*x.getD i 0:=by
 by_cases h:i<x.length
 ·rw[gQ x i h,lQ];have:(x.take i).length=i:=by simp;omega
  rw[this]
 ·rw[List.take_of_length_le (by omega),List.take_of_length_le (by omega)];simp[List.getD,List.getElem?_eq_none (Nat.le_of_not_lt h)]
theorem cI {x:List Nat} (h:∀d∈x,d<16777216) (i:Nat):x.getD i 0<16777216:=by
 by_cases hi:i<x.length
 ·simp only[List.getD,List.getElem?_eq_getElem hi,Option.getD_some];exact h _ (List.getElem_mem hi)
 ·simp[List.getD,List.getElem?_eq_none (Nat.le_of_not_lt hi)]
theorem nG {x:List Nat} {i:Nat} (h:bV x) (hl:x.length=i+1):x.getD i 0≠0:=by
 unfold bV at h;intro e;apply h;rw[List.getLast?_eq_getElem?,hl];simp only[List.getD,Nat.add_sub_cancel] at e⊢;rw[List.getElem?_eq_getElem (by omega)] at e⊢;simpa using e
structure nR (x y:List Nat) (i c:Nat) (l:List Nat):Prop where
 len:l.length=i
 le:i+c≤max x.length y.length+1
 one:c≤1
 dig:∀d∈l,d<16777216
 val:nval l+16777216^i*c=nval (x.take i)+nval (y.take i)
 canon:c=0→x.length≤i→y.length≤i→bV l
theorem nR.step {x y l:List Nat} {i c p q:Nat} (h:nR x y i c l) (hx:∀d∈x,d<16777216) (hy:∀d∈y,d<16777216) (cx:bV x) (cy:bV y) (hp:x.getD i 0=p) (hq:y.getD i 0=q) (hgo:i<x.length∨i<y.length∨0<c):
  nR x y (i+1) ((c+p+q) / 16777216) (l++[(c+p+q) % 16777216]):=by
 have h1:=cI hx i;have h2:=cI hy i;have h3:=h.one;rw[hp] at h1;rw[hq] at h2;refine⟨by simp[h.len],?_,by omega,?_,?_,?_⟩
 ·have:=h.le;by_cases e:i<x.length∨i<y.length
  ·omega
  ·have ep:p=0:=by rw[←hp];simp[List.getD,List.getElem?_eq_none (Nat.le_of_not_lt (fun h=>e (Or.inl h)))]
   have eq:q=0:=by rw[←hq];simp[List.getD,List.getElem?_eq_none (Nat.le_of_not_lt (fun h=>e (Or.inr h)))]
   omega
 ·intro d hd;rcases List.mem_append.1 hd with hd|hd
  ·exact h.dig d hd
  ·simp at hd;omega
 ·have e:=nW l (c+p+q);have el:(l++[(c+p+q) % 16777216]).length=i+1:=by simp[h.len]
  rw[el,h.len] at e;rw[e,dj,dj,hp,hq,Nat.mul_add,Nat.mul_add];have:=h.val;omega
 ·intro hc hxl hyl;apply nQ;have hn:(c+p+q) % 16777216=c+p+q:=by omega
  rw[hn];rcases hgo with hgo|hgo|hgo
  ·have:=nG cx (i:=i) (by omega);omega
  ·have:=nG cy (i:=i) (by omega);omega
  ·omega
theorem nR.done {x y l:List Nat} {i:Nat} (h:nR x y i 0 l) (hx:x.length≤i) (hy:y.length≤i):digits (nval x+nval y)=l:=by
 have:=h.val;rw[List.take_of_length_le hx,List.take_of_length_le hy] at this;have e:nval x+nval y=nval l:=by omega
 rw[e];exact ki l h.dig (h.canon rfl hx hy)
theorem Ea (x y:List Nat) (va vb:Value) (w:World) (hx:Dig w va x) (hy:Dig w vb y) (cx:bV x) (cy:bV y) (hlx:x.length≤1000000) (hly:y.length≤1000000):
  ax 117 #[va,vb] w fun e w'=>∃v,e= .returned v∧aq w' v (nval x+nval y)∧Below w.heap.size w w':=by
 obtain⟨i0,hi,hz0,hz1,hz2⟩:=info_parts kO;have HDX:=hid hx.1;have HDY:=hid hy.1;have HCX:=hid cx;have HCY:=hid cy;obtain⟨ao,ca,rfl,hca,ha⟩:=hx.open;obtain⟨bo,cb,rfl,hcb,hb⟩:=hy.open;have HA:=hid ha;have HB:=hid hb;clear hx hy cx cy ha hb;go_enter Tryz.func117,Tryz.ntmps117;go_wp2
 go_loopw [5,6,7] (fun v5 v6 v7 wr=>∃(i c:Nat) (l:List Nat),v7=iV (i:Int)∧v6=iV (c:Int)∧wr.ownsRow w.heap.size 3 1 v5 l.length (l.map dv)∧nR x y i c l∧Below w.heap.size w wr) (fun _ _ v7 _=>x.length+y.length+1-(intOf v7).toNat)
 case atStart=>exact⟨0,0,[],rfl,rfl,World.ownsRow_nil _ _ _ _,⟨rfl,Nat.zero_le _,Nat.zero_le _,by simp,by simp[nval],fun _ _ _=>om⟩,Below.refl _ _⟩
 case round=>
  obtain⟨i,c,l,rfl,rfl,hown,hR,hbr⟩:=hrel;have hc1:=hR.one;have hle:=hR.le;have hll:=hR.len;have hlen:l.length≤2000001:=by omega
  have HR:=hid hR;have hi2:i≤2000001:=by omega
  generalize hp:x.getD i 0=p;generalize hq:y.getD i 0=q;have hpl:p<16777216:=by rw[←hp];exact cI HDX.out i
  have hql:q<16777216:=by rw[←hq];exact cI HDY.out i
  have S:i<x.length∨i<y.length∨0<c→Hid (nR x y (i+1) ((c+p+q) / 16777216) (l++[(c+p+q) % 16777216])):=hR.step HDX.out HDY.out HCX.out HCY.out hp hq;have HP:=hid hp;have HQ:=hid hq;clear hR hll hp hq;rcases(show(i<x.length∧i<y.length)∨(i<x.length∧¬i<y.length)∨(¬i<x.length∧i<y.length)∨(¬i<x.length∧¬i<y.length∧0<c)∨(¬i<x.length∧¬i<y.length∧c=0) by omega) with⟨g1,g2⟩|⟨g1,g2⟩|⟨g1,g2⟩|⟨g1,g2,g3⟩|⟨g1,g2,g3⟩
  ·have S:=S (Or.inl g1)
   have cxa:∃b1 o1,ao=some ⟨b1,o1,none⟩∧wr.cell? ⟨b1,o1+i,none⟩=some (iV (p:Int)):=by
    obtain⟨b1,o1,h1,h2,h3⟩:=HA.out.resolve_left (by omega);exact⟨b1,o1,h1,by rw[hbr.cell (p:=⟨b1,o1+i,none⟩) h2,h3 i g1,HP.out]⟩
   obtain⟨b1,o1,rfl,c1⟩:=cxa
   have cyb:∃b2 o2,bo=some ⟨b2,o2,none⟩∧wr.cell? ⟨b2,o2+i,none⟩=some (iV (q:Int)):=by
    obtain⟨b2,o2,h1,h2,h3⟩:=HB.out.resolve_left (by omega);exact⟨b2,o2,h1,by rw[hbr.cell (p:=⟨b2,o2+i,none⟩) h2,h3 i g2,HQ.out]⟩
   obtain⟨b2,o2,rfl,c2⟩:=cyb
   go_wp2_with (first
    |(at_builtin;refine wpList_append_own _ rfl _ _ 40 rfl w.heap.size 3 i0 (iV 0) 1 8 Tryz.underlying40 hi hz0 hz1 hz2 rfl (by decide) _ _ _ rfl (hown.alloc _) ⟨wr.heap.size,0,none⟩ 1 1 [iV (((c:Int)+p+q) % 16777216)] rfl rfl ?a1 ?a2 ?a3 ?a4 ?a5 ?_)
    |go_in)
   case a1=>
    intro j u hj
    match j,hj with
    |0,hj=>simp at hj;subst hj;simp[Addr.add]
   case a2=>intro u hu;simp at hu;subst hu;rfl
   case a3=>unfold maxLen;omega
   case a4=>omega
   case a5=>have:=hbr.size;simp;omega
   ·intro v' w1 hown' hgrow _;have R:=dD hown hbr ae hown' (d:=(c+p+q) % 16777216) (by omega) hgrow;clear hown' hgrow hown hbr;go_wp2;go_roundw
    case rel=>exact⟨_,_,l++[(c+p+q) % 16777216],by go_num,by go_num,R.1,S.out,R.2⟩
    case measure=>simp[intOf];omega
  ·have S:=S (Or.inl g1)
   have cxa:∃b1 o1,ao=some ⟨b1,o1,none⟩∧wr.cell? ⟨b1,o1+i,none⟩=some (iV (p:Int)):=by
    obtain⟨b1,o1,h1,h2,h3⟩:=HA.out.resolve_left (by omega);exact⟨b1,o1,h1,by rw[hbr.cell (p:=⟨b1,o1+i,none⟩) h2,h3 i g1,HP.out]⟩
   obtain⟨b1,o1,rfl,c1⟩:=cxa;have hq0:q=0:=by rw[←HQ.out];simp[List.getD,List.getElem?_eq_none (Nat.le_of_not_lt g2)]
   have HQ0:=hid hq0;clear hq0
   go_wp2_with (first
    |(at_builtin;refine wpList_append_own _ rfl _ _ 40 rfl w.heap.size 3 i0 (iV 0) 1 8 Tryz.underlying40 hi hz0 hz1 hz2 rfl (by decide) _ _ _ rfl (hown.alloc _) ⟨wr.heap.size,0,none⟩ 1 1 [iV (((c:Int)+p) % 16777216)] rfl rfl ?b1 ?b2 ?b3 ?b4 ?b5 ?_)
    |go_in)
   case b1=>
    intro j u hj
    match j,hj with
    |0,hj=>simp at hj;subst hj;simp[Addr.add]
   case b2=>intro u hu;simp at hu;subst hu;rfl
   case b3=>unfold maxLen;omega
   case b4=>omega
   case b5=>have:=hbr.size;simp;omega
   ·intro v' w1 hown' hgrow _;have R:=dD hown hbr ae hown' (d:=(c+p+q) % 16777216) (by have:=HQ0.out;omega) hgrow;clear hown' hgrow hown hbr;go_wp2;go_roundw
    case rel=>exact⟨_,_,l++[(c+p+q) % 16777216],by go_num,by rw[HQ0.out];go_num,R.1,S.out,R.2⟩
    case measure=>simp[intOf];omega
  ·have S:=S (Or.inr (Or.inl g2))
   have cyb:∃b2 o2,bo=some ⟨b2,o2,none⟩∧wr.cell? ⟨b2,o2+i,none⟩=some (iV (q:Int)):=by
    obtain⟨b2,o2,h1,h2,h3⟩:=HB.out.resolve_left (by omega);exact⟨b2,o2,h1,by rw[hbr.cell (p:=⟨b2,o2+i,none⟩) h2,h3 i g2,HQ.out]⟩
   obtain⟨b2,o2,rfl,c2⟩:=cyb;have hp0:p=0:=by rw[←HP.out];simp[List.getD,List.getElem?_eq_none (Nat.le_of_not_lt g1)]
   have HP0:=hid hp0;clear hp0
   go_wp2_with (first
    |(at_builtin;refine wpList_append_own _ rfl _ _ 40 rfl w.heap.size 3 i0 (iV 0) 1 8 Tryz.underlying40 hi hz0 hz1 hz2 rfl (by decide) _ _ _ rfl (hown.alloc _) ⟨wr.heap.size,0,none⟩ 1 1 [iV (((c:Int)+q) % 16777216)] rfl rfl ?c1 ?c2 ?c3 ?c4 ?c5 ?_)
    |go_in)
   case c1=>
    intro j u hj
    match j,hj with
    |0,hj=>simp at hj;subst hj;simp[Addr.add]
   case c2=>intro u hu;simp at hu;subst hu;rfl
   case c3=>unfold maxLen;omega
   case c4=>omega
   case c5=>have:=hbr.size;simp;omega
   ·intro v' w1 hown' hgrow _;have R:=dD hown hbr ae hown' (d:=(c+p+q) % 16777216) (by have:=HP0.out;omega) hgrow;clear hown' hgrow hown hbr;go_wp2;go_roundw
    case rel=>exact⟨_,_,l++[(c+p+q) % 16777216],by go_num,by rw[HP0.out];go_num,R.1,S.out,R.2⟩
    case measure=>simp[intOf];omega
  ·have S:=S (Or.inr (Or.inr g3));have hp0:p=0:=by rw[←HP.out];simp[List.getD,List.getElem?_eq_none (Nat.le_of_not_lt g1)]
   have hq0:q=0:=by rw[←HQ.out];simp[List.getD,List.getElem?_eq_none (Nat.le_of_not_lt g2)]
   have HP0:=hid hp0;have HQ0:=hid hq0;clear hp0 hq0
   go_wp2_with (first
    |(at_builtin;refine wpList_append_own _ rfl _ _ 40 rfl w.heap.size 3 i0 (iV 0) 1 8 Tryz.underlying40 hi hz0 hz1 hz2 rfl (by decide) _ _ _ rfl (hown.alloc _) ⟨wr.heap.size,0,none⟩ 1 1 [iV (((c:Int)) % 16777216)] rfl rfl ?d1 ?d2 ?d3 ?d4 ?d5 ?_)
    |go_in)
   case d1=>
    intro j u hj
    match j,hj with
    |0,hj=>simp at hj;subst hj;simp[Addr.add]
   case d2=>intro u hu;simp at hu;subst hu;rfl
   case d3=>unfold maxLen;omega
   case d4=>omega
   case d5=>have:=hbr.size;simp;omega
   ·intro v' w1 hown' hgrow _;have R:=dD hown hbr ae hown' (d:=(c+p+q) % 16777216) (by have:=HP0.out;have:=HQ0.out;omega) hgrow;clear hown' hgrow hown hbr;go_wp2;go_roundw
    case rel=>exact⟨_,_,l++[(c+p+q) % 16777216],by go_num,by rw[HP0.out,HQ0.out];go_num,R.1,S.out,R.2⟩
    case measure=>simp[intOf];omega
  ·subst g3;go_wp2_with fail
   go_ret
   refine⟨_,rfl,?_,hbr⟩;unfold aq;rw[HR.out.done (by omega) (by omega)];exact Dig.of_owns hown HR.out.dig
theorem fk (a b:Nat) (va vb:Value) (w:World) (ha:aq w va a) (hb:aq w vb b) (hla:(digits a).length≤1000000) (hlb:(digits b).length≤1000000):
  ax 117 #[va,vb] w fun e w'=>∃v,e= .returned v∧aq w' v (a+b)∧Below w.heap.size w w':=by
 have:=Ea _ _ va vb w ha hb (eV a) (eV b) hla hlb;rwa [bB,bB] at this
structure mj (x y:List Nat) (i t:Nat) (l:List Nat):Prop where
 len:l.length=i
 le:i≤x.length
 one:t≤1
 dig:∀d∈l,d<16777216
 val:nval l+nval (y.take i)=nval (x.take i)+16777216^i*t
theorem mj.step {x y l:List Nat} {i t t' p q d:Nat} (h:mj x y i t l) (hi:i<x.length) (_hx:∀d∈x,d<16777216) (_hy:∀d∈y,d<16777216) (hp:x.getD i 0=p) (hq:y.getD i 0=q) (he:d+q+t=p+16777216*t') (ht:t'≤1) (hd:d<16777216):
  mj x y (i+1) t' (l++[d]):=by
 refine⟨by simp[h.len],by omega,ht,?_,?_⟩
 ·intro d' hd';rcases List.mem_append.1 hd' with hd'|hd'
  ·exact h.dig d' hd'
  ·simp at hd';omega
 ·rw[lQ,h.len,dj,dj,hp,hq,Nat.pow_succ];have hv:=h.val;generalize 16777216^i=P at*;have e1:P*(d+q+t)=P*(p+16777216*t'):=by rw[he]
  rw[Nat.mul_add,Nat.mul_add,Nat.mul_add,←Nat.mul_assoc] at e1;omega
theorem mj.done {x y l:List Nat} {t:Nat} (h:mj x y x.length t l) (hy:y.length≤x.length) (hle:nval y≤nval x):nval l=nval x-nval y:=by
 have hv:=h.val;rw[List.take_of_length_le hy,List.take_of_length_le ae] at hv;have h1:=jI l h.dig;rw[h.len] at h1
 have ht:t=0:=by
  have:=h.one;rcases Nat.eq_zero_or_pos t with h0|h0
  ·exact h0
  ·have:t=1:=by omega
   subst this;omega
 subst ht;omega
theorem BO (x y:List Nat) (va vb:Value) (w:World) (hx:Dig w va x) (hy:Dig w vb y) (hle:nval y≤nval x) (hl:y.length≤x.length) (hlx:x.length≤1000000):
  ax 119 #[va,vb] w fun e w'=>∃v,e= .returned v∧aq w' v (nval x-nval y)∧Below w.heap.size w w':=by
 obtain⟨i0,hi,hz0,hz1,hz2⟩:=info_parts kO;have HDX:=hid hx.1;have HDY:=hid hy.1;have HLE:=hid hle;obtain⟨ao,ca,rfl,hca,ha⟩:=hx.open;obtain⟨bo,cb,rfl,hcb,hb⟩:=hy.open;have HA:=hid ha;have HB:=hid hb;clear hx hy hle ha hb;go_enter Tryz.func119,Tryz.ntmps119;go_wp2
 go_loopw [5,6,7] (fun v5 v6 v7 wr=>∃(i t:Nat) (l:List Nat),v7=iV (i:Int)∧v6=iV (t:Int)∧wr.ownsRow w.heap.size 3 1 v5 l.length (l.map dv)∧mj x y i t l∧Below w.heap.size w wr) (fun _ _ v7 _=>x.length-(intOf v7).toNat)
 case atStart=>exact⟨0,0,[],rfl,rfl,World.ownsRow_nil _ _ _ _,⟨rfl,Nat.zero_le _,Nat.zero_le _,by simp,by simp[nval]⟩,Below.refl _ _⟩
 case round=>
  obtain⟨i,t,l,rfl,rfl,hown,hR,hbr⟩:=hrel;have ht1:=hR.one;have hle:=hR.le;have hll:=hR.len;have hlen:l.length≤1000000:=by omega
  have HR:=hid hR;generalize hp:x.getD i 0=p;generalize hq:y.getD i 0=q;have hpl:p<16777216:=by rw[←hp];exact cI HDX.out i
  have hql:q<16777216:=by rw[←hq];exact cI HDY.out i
  have HP:=hid hp;have HQ:=hid hq;clear hR hll hp hq;rcases(show(i<x.length∧i<y.length∧q+t≤p)∨(i<x.length∧i<y.length∧p<q+t)∨(i<x.length∧¬i<y.length∧t≤p)∨(i<x.length∧¬i<y.length∧p<t)∨¬i<x.length by omega) with⟨g1,g2,g3⟩|⟨g1,g2,g3⟩|⟨g1,g2,g3⟩|⟨g1,g2,g3⟩|g1
  ·have cxa:∃b1 o1,ao=some ⟨b1,o1,none⟩∧wr.cell? ⟨b1,o1+i,none⟩=some (iV (p:Int)):=by
    obtain⟨b1,o1,h1,h2,h3⟩:=HA.out.resolve_left (by omega);exact⟨b1,o1,h1,by rw[hbr.cell (p:=⟨b1,o1+i,none⟩) h2,h3 i g1,HP.out]⟩
   obtain⟨b1,o1,rfl,c1⟩:=cxa
   have cyb:∃b2 o2,bo=some ⟨b2,o2,none⟩∧wr.cell? ⟨b2,o2+i,none⟩=some (iV (q:Int)):=by
    obtain⟨b2,o2,h1,h2,h3⟩:=HB.out.resolve_left (by omega);exact⟨b2,o2,h1,by rw[hbr.cell (p:=⟨b2,o2+i,none⟩) h2,h3 i g2,HQ.out]⟩
   obtain⟨b2,o2,rfl,c2⟩:=cyb
   go_wp2_with (first
    |(at_builtin;refine wpList_append_own _ rfl _ _ 40 rfl w.heap.size 3 i0 (iV 0) 1 8 Tryz.underlying40 hi hz0 hz1 hz2 rfl (by decide) _ _ _ rfl (hown.alloc _) ⟨wr.heap.size,0,none⟩ 1 1 [iV ((p:Int)-t-q)] rfl rfl ?a1 ?a2 ?a3 ?a4 ?a5 ?_)
    |go_in)
   case a1=>
    intro j u hj
    match j,hj with
    |0,hj=>simp at hj;subst hj;simp[Addr.add]
   case a2=>intro u hu;simp at hu;subst hu;rfl
   case a3=>unfold maxLen;omega
   case a4=>omega
   case a5=>have:=hbr.size;simp;omega
   ·intro v' w1 hown' hgrow _;have R:=dD hown hbr ae hown' (d:=p-t-q) (by omega) hgrow;clear hown' hgrow hown hbr;go_wp2;go_roundw
    case rel=>exact⟨i+1,0,l++[p-t-q],by go_num,by go_num,R.1,HR.out.step g1 HDX.out HDY.out HP.out HQ.out (by omega) (by omega) (by omega),R.2⟩
    case measure=>simp[intOf];omega
  ·have cxa:∃b1 o1,ao=some ⟨b1,o1,none⟩∧wr.cell? ⟨b1,o1+i,none⟩=some (iV (p:Int)):=by
    obtain⟨b1,o1,h1,h2,h3⟩:=HA.out.resolve_left (by omega);exact⟨b1,o1,h1,by rw[hbr.cell (p:=⟨b1,o1+i,none⟩) h2,h3 i g1,HP.out]⟩
   obtain⟨b1,o1,rfl,c1⟩:=cxa
   have cyb:∃b2 o2,bo=some ⟨b2,o2,none⟩∧wr.cell? ⟨b2,o2+i,none⟩=some (iV (q:Int)):=by
    obtain⟨b2,o2,h1,h2,h3⟩:=HB.out.resolve_left (by omega);exact⟨b2,o2,h1,by rw[hbr.cell (p:=⟨b2,o2+i,none⟩) h2,h3 i g2,HQ.out]⟩
   obtain⟨b2,o2,rfl,c2⟩:=cyb
   go_wp2_with (first
    |(at_builtin;refine wpList_append_own _ rfl _ _ 40 rfl w.heap.size 3 i0 (iV 0) 1 8 Tryz.underlying40 hi hz0 hz1 hz2 rfl (by decide) _ _ _ rfl (hown.alloc _) ⟨wr.heap.size,0,none⟩ 1 1 [iV ((p:Int)-t-q+16777216)] rfl rfl ?b1 ?b2 ?b3 ?b4 ?b5 ?_)
    |go_in)
   case b1=>
    intro j u hj
    match j,hj with
    |0,hj=>simp at hj;subst hj;simp[Addr.add]
   case b2=>intro u hu;simp at hu;subst hu;rfl
   case b3=>unfold maxLen;omega
   case b4=>omega
   case b5=>have:=hbr.size;simp;omega
   ·intro v' w1 hown' hgrow _;have R:=dD hown hbr ae hown' (d:=p+16777216-t-q) (by omega) hgrow;clear hown' hgrow hown hbr;go_wp2;go_roundw
    case rel=>exact⟨i+1,1,l++[p+16777216-t-q],by go_num,by go_num,R.1,HR.out.step g1 HDX.out HDY.out HP.out HQ.out (by omega) (by omega) (by omega),R.2⟩
    case measure=>simp[intOf];omega
  ·have cxa:∃b1 o1,ao=some ⟨b1,o1,none⟩∧wr.cell? ⟨b1,o1+i,none⟩=some (iV (p:Int)):=by
    obtain⟨b1,o1,h1,h2,h3⟩:=HA.out.resolve_left (by omega);exact⟨b1,o1,h1,by rw[hbr.cell (p:=⟨b1,o1+i,none⟩) h2,h3 i g1,HP.out]⟩
   obtain⟨b1,o1,rfl,c1⟩:=cxa;have hq0:q=0:=by rw[←HQ.out];simp[List.getD,List.getElem?_eq_none (Nat.le_of_not_lt g2)]
   have HQ0:=hid hq0;clear hq0
   go_wp2_with (first
    |(at_builtin;refine wpList_append_own _ rfl _ _ 40 rfl w.heap.size 3 i0 (iV 0) 1 8 Tryz.underlying40 hi hz0 hz1 hz2 rfl (by decide) _ _ _ rfl (hown.alloc _) ⟨wr.heap.size,0,none⟩ 1 1 [iV ((p:Int)-t)] rfl rfl ?c1 ?c2 ?c3 ?c4 ?c5 ?_)
    |go_in)
   case c1=>
    intro j u hj
    match j,hj with
    |0,hj=>simp at hj;subst hj;simp[Addr.add]
   case c2=>intro u hu;simp at hu;subst hu;rfl
   case c3=>unfold maxLen;omega
   case c4=>omega
   case c5=>have:=hbr.size;simp;omega
   ·intro v' w1 hown' hgrow _;have R:=dD hown hbr ae hown' (d:=p-t) (by have:=HQ0.out;omega) hgrow;clear hown' hgrow hown hbr;go_wp2;go_roundw
    case rel=>exact⟨i+1,0,l++[p-t],by go_num,by go_num,R.1,HR.out.step g1 HDX.out HDY.out HP.out HQ.out (by have:=HQ0.out;omega) (by omega) (by have:=HQ0.out;omega),R.2⟩
    case measure=>simp[intOf];omega
  ·have cxa:∃b1 o1,ao=some ⟨b1,o1,none⟩∧wr.cell? ⟨b1,o1+i,none⟩=some (iV (p:Int)):=by
    obtain⟨b1,o1,h1,h2,h3⟩:=HA.out.resolve_left (by omega);exact⟨b1,o1,h1,by rw[hbr.cell (p:=⟨b1,o1+i,none⟩) h2,h3 i g1,HP.out]⟩
   obtain⟨b1,o1,rfl,c1⟩:=cxa;have hq0:q=0:=by rw[←HQ.out];simp[List.getD,List.getElem?_eq_none (Nat.le_of_not_lt g2)]
   have HQ0:=hid hq0;clear hq0
   go_wp2_with (first
    |(at_builtin;refine wpList_append_own _ rfl _ _ 40 rfl w.heap.size 3 i0 (iV 0) 1 8 Tryz.underlying40 hi hz0 hz1 hz2 rfl (by decide) _ _ _ rfl (hown.alloc _) ⟨wr.heap.size,0,none⟩ 1 1 [iV ((p:Int)-t+16777216)] rfl rfl ?d1 ?d2 ?d3 ?d4 ?d5 ?_)
    |go_in)
   case d1=>
    intro j u hj
    match j,hj with
    |0,hj=>simp at hj;subst hj;simp[Addr.add]
   case d2=>intro u hu;simp at hu;subst hu;rfl
   case d3=>unfold maxLen;omega
   case d4=>omega
   case d5=>have:=hbr.size;simp;omega
   ·intro v' w1 hown' hgrow _;have R:=dD hown hbr ae hown' (d:=p+16777216-t) (by have:=HQ0.out;omega) hgrow;clear hown' hgrow hown hbr;go_wp2;go_roundw
    case rel=>exact⟨i+1,1,l++[p+16777216-t],by go_num,by go_num,R.1,HR.out.step g1 HDX.out HDY.out HP.out HQ.out (by have:=HQ0.out;omega) (by omega) (by have:=HQ0.out;omega),R.2⟩
    case measure=>simp[intOf];omega
  ·have hie:i=x.length:=by omega
   subst hie;have hD:=Dig.of_owns hown HR.out.dig;go_wp2_with fail;refine(qG l _ _ hD (by omega)).mono ?_;rintro e w' ⟨v',rfl,hN,rfl⟩;rw[HR.out.done hl HLE.out] at hN;go_wp2_with fail
   go_ret
   exact⟨_,rfl,hN,hbr⟩
theorem wW {a b:Nat} (h:b≤a):(digits b).length≤(digits a).length:=by
 rcases Nat.lt_or_ge (digits a).length (digits b).length with h'|h'
 ·have:=oT h';omega
 ·exact h'
theorem oI (a b:Nat) (va vb:Value) (w:World) (ha:aq w va a) (hb:aq w vb b) (hle:b≤a) (hla:(digits a).length≤1000000):
  ax 119 #[va,vb] w fun e w'=>∃v,e= .returned v∧aq w' v (a-b)∧Below w.heap.size w w':=by
 have:=BO _ _ va vb w ha hb (by rw[bB,bB];exact hle) (wW hle) hla;rwa [bB,bB] at this
theorem wU:∀(l:List Nat) (k d:Nat),k<l.length→nval (l.set k d)+16777216^k*l.getD k 0=nval l+16777216^k*d
 |[],k,d,h=>by simp at h
 |a::r,0,d,_=>by simp[nval];omega
 |a::r,k+1,d,h=>by
  have ih:=wU r k d (by simpa using h);simp only[List.set_cons_succ,nval,List.getD_cons_succ,Nat.pow_succ];generalize 16777216^k=P at*;rw[Nat.mul_comm P 16777216,Nat.mul_assoc,Nat.mul_assoc];omega
theorem DM (l:List Nat) (k j d:Nat) (h:k≠j):(l.set k d).getD j 0=l.getD j 0:=by
 simp[List.getD,List.getElem?_set_ne h]
theorem FY {l:List Nat} {k d x:Nat} (h:x∈l.set k d):x∈l∨x=d:=List.mem_or_eq_of_mem_set h
structure InR (l0 y:List Nat) (xi i j c:Nat) (l:List Nat):Prop where
 len:l.length=l0.length
 dig:∀d∈l,d<16777216
 car:c<16777216
 le:j≤y.length∨(j=y.length+1∧c=0)
 val:nval l+16777216^(i+j)*c=nval l0+16777216^i*(xi*nval (y.take j))
 same:∀k,i+j≤k→l.getD k 0=l0.getD k 0
theorem tW {p q:Nat} (hp:p<16777216) (hq:q<16777216):p*q≤281474943156225:=by
 have:=Nat.mul_le_mul (show p≤16777215 by omega) (show q≤16777215 by omega);omega
theorem InR.step {l0 y l:List Nat} {xi i j c k q:Nat} (h:InR l0 y xi i j c l) (hxi:xi<16777216) (hy:∀d∈y,d<16777216) (hz:∀k,i+y.length≤k→l0.getD k 0=0) (hlen:i+j<l0.length) (hk:l.getD (i+j) 0=k) (hq:y.getD j 0=q) (hgo:j<y.length∨(¬j<y.length∧0<c)):
  InR l0 y xi i (j+1) ((k+c+xi*q) / 16777216) (l.set (i+j) ((k+c+xi*q) % 16777216)):=by
 have hk1:k<16777216:=by rw[←hk];exact cI h.dig _
 have hq1:q<16777216:=by rw[←hq];exact cI hy _
 have hm:=tW hxi hq1;have hc:=h.car;have hl:i+j<l.length:=by rw[h.len];exact hlen
 refine⟨by rw[List.length_set];exact h.len,?_,by omega,?_,?_,?_⟩
 ·intro d hd;rcases FY hd with hd|rfl
  ·exact h.dig d hd
  ·omega
 ·rcases hgo with hgo|⟨hgo,hc0⟩
  ·exact Or.inl (by omega)
  ·have hj:j=y.length:=by rcases h.le with h|⟨_,h⟩<;>omega
   have hq0:q=0:=by rw[←hq];simp[List.getD,List.getElem?_eq_none (Nat.le_of_not_lt hgo)]
   have hk0:k=0:=by rw[←hk,h.same _ ae];exact hz _ (by omega)
   subst hq0 hk0;exact Or.inr ⟨by omega,by omega⟩
 ·have e1:=wU l (i+j) ((k+c+xi*q) % 16777216) hl;rw[hk] at e1;have hv:=h.val;rw[dj,hq,show i+(j+1)=(i+j)+1 by omega,Nat.pow_succ,Nat.mul_add xi,Nat.mul_add (16777216^i)]
  have e2:16777216^i*(xi*(16777216^j*q))=16777216^(i+j)*(xi*q):=by
   rw[Nat.pow_add,←Nat.mul_assoc xi,Nat.mul_comm xi (16777216^j),Nat.mul_assoc,Nat.mul_assoc]
  rw[e2];generalize 16777216^(i+j)=P at*;generalize xi*q=m at*;have e3:P*(k+c+m)=P*((k+c+m) % 16777216)+P*(16777216*((k+c+m) / 16777216)):=by rw[←Nat.mul_add,Nat.mod_add_div]
  rw[Nat.mul_add,Nat.mul_add,←Nat.mul_assoc] at e3;omega
 ·intro k' hk';rw[DM _ _ _ _ (by omega)];exact h.same k' (by omega)
structure qE (x y:List Nat) (i:Nat) (l:List Nat):Prop where
 len:l.length=x.length+y.length
 le:i≤x.length
 dig:∀d∈l,d<16777216
 val:nval l=nval (x.take i)*nval y
 zero:∀k,i+y.length≤k→l.getD k 0=0
theorem qE.step {x y l0 l:List Nat} {i j xi:Nat} (h:qE x y i l0) (hi:i<x.length) (hxi:x.getD i 0=xi) (hI:InR l0 y xi i j 0 l) (hj:¬j<y.length):qE x y (i+1) l:=by
 refine⟨by rw[hI.len];exact h.len,by omega,hI.dig,?_,?_⟩
 ·have hv:=hI.val;rw[List.take_of_length_le (by omega),Nat.mul_zero,Nat.add_zero,h.val] at hv;rw[hv,dj,hxi,Nat.add_mul,Nat.mul_assoc]
 ·intro k hk;have:=hI.le;rw[hI.same k (by omega)];exact h.zero k (by omega)
theorem qE.start (x y:List Nat):qE x y 0 (List.replicate (x.length+y.length) 0):=by
 have hz:∀n,nval (List.replicate n 0)=0:=by
  intro n
  induction n with
  |zero=>rfl
  |succ n ih=>simp[List.replicate_succ,nval,ih]
 refine⟨by simp,by omega,?_,by rw[hz];simp[nval],?_⟩
 ·intro d hd;rw[List.eq_of_mem_replicate hd];omega
 ·intro k _;simp only[List.getD,List.getElem?_replicate];split<;>rfl
theorem rL (l:List Nat) (k d:Nat):(l.set k d).map dv=(l.map dv).set k (dv d):=by simp[List.map_set]
theorem C7 (x y:List Nat) (va vb:Value) (w:World) (hx:Dig w va x) (hy:Dig w vb y) (hlx:x.length≤1000000) (hly:y.length≤1000000):
  ax 120 #[va,vb] w fun e w'=>∃v,e= .returned v∧aq w' v (nval x*nval y)∧Below w.heap.size w w':=by
 obtain⟨i0,hi,hz0,hz1,hz2⟩:=info_parts kO;have HDX:=hid hx.1;have HDY:=hid hy.1;obtain⟨ao,ca,rfl,hca,ha⟩:=hx.open;obtain⟨bo,cb,rfl,hcb,hb⟩:=hy.open;have HA:=hid ha;have HB:=hid hb;clear hx hy ha hb;go_enter Tryz.func120,Tryz.ntmps120;go_wp2_with (at_make;refine wpList_make_full _ rfl _ _ 40 rfl w.heap.size 3 i0 (iV 0) 1 Tryz.underlying40 hi hz0 hz1 _ _ _ _ (x.length+y.length) rfl rfl (by omega) (by omega) ?m1 ?m2 ?m3 ?_)
 case m1=>rw[hz2];omega
 case m2=>unfold maxLen;omega
 case m3=>exact Nat.le_refl _
 intro w1 hown1 hgrow1;rw[toList_madeCells_one] at hown1
 have hown1:w1.ownsRow w.heap.size 3 1 (.slice (some ⟨w.heap.size,0,none⟩) (x.length+y.length) (x.length+y.length)) (x.length+y.length) ((List.replicate (x.length+y.length) 0).map dv):=by
  simpa[dv] using hown1
 have hb1:=aK.grown hgrow1 ae (fun k hk=>by cases hk);clear hgrow1;go_wp2
 go_loopw [6] (fun v6 wr=>∃(i:Nat) (l:List Nat),v6=iV (i:Int)∧wr.ownsRow w.heap.size 3 1 (.slice (some ⟨w.heap.size,0,none⟩) (x.length+y.length) (x.length+y.length)) (x.length+y.length) (l.map dv)∧qE x y i l∧Below w.heap.size w wr) (fun v6 _=>x.length-(intOf v6).toNat)
 case atStart=>exact⟨0,_,rfl,hown1,qE.start x y,hb1⟩
 case round=>
  obtain⟨i,l0,rfl,hown0,hO,hbo⟩:=hrel;have HO:=hid hO;have hil:=hO.le;clear hO hown1 hb1;by_cases g1:i<x.length
  ·have hgo:x.length≠0:=by omega
   have cxa:∃b1 o1,ao=some ⟨b1,o1,none⟩∧b1<w.heap.size∧w.cell? ⟨b1,o1+i,none⟩=some (iV (x.getD i 0:Nat)):=by
    obtain⟨b1,o1,h1,h2,h3⟩:=HA.out.resolve_left hgo;exact⟨b1,o1,h1,h2,h3 i g1⟩
   obtain⟨b1,o1,rfl,hb1,c1⟩:=cxa;generalize hp:x.getD i 0=p at c1;have hpl:p<16777216:=by rw[←hp];exact cI HDX.out i
   have HP:=hid hp;have C1:=hid c1;clear hp c1;obtain⟨wo,rfl⟩:∃wo:World,wo=wr:=⟨_,rfl⟩;go_wp2
   go_loopw [7,8] (fun v7 v8 wr=>∃(j c:Nat) (l:List Nat),v8=iV (j:Int)∧v7=iV (c:Int)∧wr.ownsRow w.heap.size 3 1 (.slice (some ⟨w.heap.size,0,none⟩) (x.length+y.length) (x.length+y.length)) (x.length+y.length) (l.map dv)∧InR l0 y p i j c l∧Below w.heap.size w wr) (fun _ v8 _=>y.length+1-(intOf v8).toNat)
   case atStart=>exact⟨0,0,l0,rfl,rfl,hown0,⟨rfl,HO.out.dig,by omega,Or.inl (by omega),by simp[nval],fun _ _=>rfl⟩,hbo⟩
   case round=>
    obtain⟨j,c,l,rfl,rfl,hown,hI,hbr⟩:=hrel;have HI:=hid hI;have hcl:=hI.car;have hjl:j≤y.length+1:=by have:=hI.le;omega
    have HJ:=hid hI.le;clear hI;have c1:=(hbr.cell (p:=⟨b1,o1+i,none⟩) hb1).trans C1.out;have hlen:Hid (l.length=x.length+y.length):=by show l.length=_;rw[HI.out.len,HO.out.len]
    by_cases g2:j<y.length
    ·have cyb:∃b2 o2,bo=some ⟨b2,o2,none⟩∧wr.cell? ⟨b2,o2+j,none⟩=some (iV (y.getD j 0:Nat)):=by
      obtain⟨b2,o2,h1,h2,h3⟩:=HB.out.resolve_left (by omega);exact⟨b2,o2,h1,by rw[hbr.cell (p:=⟨b2,o2+j,none⟩) h2,h3 j g2]⟩
     obtain⟨b2,o2,rfl,c2⟩:=cyb;generalize hq:y.getD j 0=q at c2;have hql:q<16777216:=by rw[←hq];exact cI HDY.out j
     have HQ:=hid hq;clear hq
     have c3:wr.cell? ⟨w.heap.size,i+j,none⟩=some (iV (l.getD (i+j) 0:Nat)):=by
      rw[hown.cellAt (i+j) (by omega)];have:i+j<l.length:=by rw[hlen.out];omega
      simp[List.getElem?_eq_getElem this,dv]
     generalize hk:l.getD (i+j) 0=k at c3;have hkl:k<16777216:=by rw[←hk];exact cI HI.out.dig _
     have HK:=hid hk;clear hk;have hfz:=hown.frozenAt (i+j);have hm:(p:Int)*(q:Int)≤281474943156225:=by have:=tW hpl hql;rw[←Int.natCast_mul];omega
     have hm0:0≤(p:Int)*(q:Int):=by rw[←Int.natCast_mul];omega
     go_wp2;go_quiet (fail);go_wp2;go_roundw
     case rel=>
      refine⟨j+1,(k+c+p*q) / 16777216,l.set (i+j) ((k+c+p*q) % 16777216),by go_num,?_,?_,?_,?_⟩
      ·rw[←Int.natCast_mul];go_num
      ·have:=((show(wr.drewN nq).ownsRow _ _ _ _ _ _ from hown).stored (i+j) (dv ((k+c+p*q) % 16777216))).1;rw[rL];rw[←Int.natCast_mul];exact this
      ·exact HI.out.step hpl HDY.out HO.out.zero (by rw[HO.out.len];omega) HK.out HQ.out (Or.inl g2)
      ·exact(below_drewN hbr nq).setCell ae _
     case measure=>simp[intOf];omega
    ·by_cases g3:0<c
     ·have hj:j=y.length:=by have:=HJ.out;omega
      have HJE:=hid hj;clear hj;have hij:i+j<x.length+y.length:=by have:=HJE.out;omega
      have c3:wr.cell? ⟨w.heap.size,i+j,none⟩=some (iV (l.getD (i+j) 0:Nat)):=by
       rw[hown.cellAt (i+j) (by omega)];have:i+j<l.length:=by rw[hlen.out];omega
       simp[List.getElem?_eq_getElem this,dv]
      generalize hk:l.getD (i+j) 0=k at c3;have hkl:k<16777216:=by rw[←hk];exact cI HI.out.dig _
      have HK:=hid hk;clear hk;have hfz:=hown.frozenAt (i+j);have hq0:Hid (y.getD j 0=0):=by show y.getD j 0=0;simp[List.getD,List.getElem?_eq_none (Nat.le_of_not_lt g2)]
      go_wp2;go_roundw
      case rel=>
       have S:=HI.out.step hpl HDY.out HO.out.zero (by rw[HO.out.len];omega) HK.out hq0.out (Or.inr ⟨g2,g3⟩);rw[Nat.mul_zero,Nat.add_zero] at S;refine⟨j+1,(k+c) / 16777216,l.set (i+j) ((k+c) % 16777216),by go_num,by go_num,?_,S,?_⟩
       ·have:=(hown.stored (i+j) (dv ((k+c) % 16777216))).1;rw[rL];exact this
       ·exact hbr.setCell ae _
      case measure=>have:=HJE.out;simp[intOf];omega
     ·have hc0:c=0:=by omega
      subst hc0;go_wp2;go_roundw
      case rel=>exact⟨i+1,l,by go_num,hown,HO.out.step g1 HP.out HI.out g2,hbr⟩
      case measure=>simp[intOf];omega
  ·have hie:i=x.length:=by omega
   subst hie
   have hD:Dig wr (.slice (some ⟨w.heap.size,0,none⟩) (x.length+y.length) (x.length+y.length)) l0:=by
    have h1:=hown0;rw[←HO.out.len] at h1⊢;exact Dig.of_owns h1 HO.out.dig
   have hlen:Hid (l0.length≤2000000):=by show _≤_;rw[HO.out.len];omega
   go_wp2_with fail;refine(qG l0 _ _ hD hlen.out).mono ?_;rintro e w' ⟨v',rfl,hN,rfl⟩;have e:nval l0=nval x*nval y:=by rw[HO.out.val,List.take_of_length_le ae]
   rw[e] at hN;clear e;go_wp2_with fail
   go_ret
   exact⟨_,rfl,hN,hbo⟩
theorem lP (a b:Nat) (va vb:Value) (w:World) (ha:aq w va a) (hb:aq w vb b) (hla:(digits a).length≤1000000) (hlb:(digits b).length≤1000000):
  ax 120 #[va,vb] w fun e w'=>∃v,e= .returned v∧aq w' v (a*b)∧Below w.heap.size w w':=by
 have:=C7 _ _ va vb w ha hb hla hlb;rwa [bB,bB] at this
theorem n7 (n:Nat):nval (List.replicate n 0)=0:=by
 induction n with
 |zero=>rfl
 |succ n ih=>simp[List.replicate_succ,nval,ih]
theorem xk {x y:List Nat} (hy:y≠[]) (h:bV y):bV (x++y):=by
 unfold bV at*;rw[List.getLast?_append]
 cases e:y.getLast? with
 |none=>exact absurd (List.getLast?_eq_none_iff.1 e) hy
 |some z=>rw[e] at h;simpa using h
theorem Bt {a k:Nat} (ha:a≠0):digits (a*2^k)=List.replicate (k / 24) 0++digits (a*2^(k % 24)):=by
 have hne:digits (a*2^(k % 24))≠[]:=by
  rw[Ne,d6];exact Nat.mul_ne_zero ha (Nat.ne_of_gt (Nat.two_pow_pos _))
 have h:=ki (List.replicate (k / 24) 0++digits (a*2^(k % 24)))
  (fun d hd=>by
    rcases List.mem_append.1 hd with hd|hd
    ·rw[List.eq_of_mem_replicate hd];omega
    ·exact eZ _ d hd) (xk hne (eV _))
 rw[iF,n7,bB,List.length_replicate,Nat.zero_add] at h;rw[←h]
 congr 1
 have e:(16777216:Nat)=2^24:=rfl;rw[e,←Nat.pow_mul,Nat.mul_comm (2^(24*(k / 24))),Nat.mul_assoc,←Nat.pow_add]
 congr 2
 omega
theorem rQ {k:Nat} (h:k<24):2^k≤8388608:=by
 have:2^k≤2^23:=Nat.pow_le_pow_right (by decide) (by omega);simpa using this
theorem nY {w w':World} {base:Nat} {e:TypeId} {size:Nat} {v:Value} {n:Nat} {xs:List Value} (h:w.ownsRow base e size v n xs) (hb:Below w.heap.size w w'):w'.ownsRow base e size v n xs:=by
 obtain⟨h1,h2⟩:=h;refine⟨h1,?_⟩;rcases h2 with h2|⟨g,cap,cur,hv,hg,hh,r⟩
 ·exact Or.inl h2
 ·exact Or.inr ⟨g,cap,cur,hv,hg,by rw[hb.block g (Array.getElem?_eq_some_iff.1 hh).1];exact hh,r⟩
theorem Gp (a k:Nat):(digits (a*2^(k % 24))).length≤(digits a).length+1:=by
 apply dO;rw[Nat.pow_succ];have h1:=dL a;have h2:=rQ (Nat.mod_lt k (by decide:0<24));have h3:a*2^(k % 24)≤a*8388608:=Nat.mul_le_mul_left _ h2;omega
theorem se (k:Nat):wrap64 (2^(k % 24))=((2^(k % 24):Nat):Int):=by
 have h:=rQ (Nat.mod_lt k (by decide:0<24));have e:(2:Int)^(k % 24)=((2^(k % 24):Nat):Int):=by rw[Int.natCast_pow];rfl
 rw[e];clear e;generalize(2^(k % 24):Nat)=m at h⊢;unfold wrap64;omega
theorem iu (a k:Nat) (va:Value) (w:World) (ha:aq w va a) (hla:(digits a).length≤500000) (hk:k≤1000000):
  ax 123 #[va,iV (k:Int)] w fun e w'=>∃v,e= .returned v∧aq w' v (a*2^k)∧Below w.heap.size w w':=by
 obtain⟨i0,hi,hz0,hz1,hz2⟩:=info_parts kO;have HA:=hid ha;obtain⟨ao,ca,hv,hca,hcell⟩:=ha.open;by_cases h0:a=0
 ·subst h0;rw[cK] at hv;subst hv;clear hcell ha HA;go_enter Tryz.func123,Tryz.ntmps123;go_wp2
  go_ret
  refine⟨_,rfl,?_,Below.refl _ _⟩;rw[Nat.zero_mul];exact⟨by simp[cK],Or.inl ⟨rfl,rfl⟩⟩
 ·have hl0:(((digits a).length:Int)==0)=false:=by
   have:digits a≠[]:=fun e=>h0 ((d6 a).1 e)
   have:(digits a).length≠0:=fun e=>this (List.length_eq_zero_iff.1 e)
   simp;omega
  rw[hv];rw[hv] at HA;clear hcell ha hv;go_enter Tryz.func123,Tryz.ntmps123;go_wp2_with (at_make;refine wpList_make_full _ rfl _ _ 40 rfl w.heap.size 3 i0 (iV 0) 1 Tryz.underlying40 hi hz0 hz1 _ _ _ _ (k / 24) rfl rfl (by omega) (by omega) ?m1 ?m2 ?m3 ?_)
  case m1=>rw[hz2];omega
  case m2=>unfold maxLen;omega
  case m3=>exact Nat.le_refl _
  intro w1 hown1 hgrow1;rw[toList_madeCells_one] at hown1
  have hown1:w1.ownsRow w.heap.size 3 1 (.slice (some ⟨w.heap.size,0,none⟩) (k / 24) (k / 24)) (k / 24) ((List.replicate (k / 24) 0).map dv):=by
   simpa[dv] using hown1
  have hb1:=aK.grown hgrow1 ae (fun k hk=>by cases hk);clear hgrow1;go_wp2_with fail;rw[se];refine(dG (2^(k % 24)) _ (by have:=rQ (Nat.mod_lt k (by decide:0<24));omega)).mono ?_;rintro e w2 ⟨v2,rfl,hN2,hb2⟩;have HA2:=(HA.out.below hb1 ae).below hb2 ae;go_wp2_with fail;refine(lP a (2^(k % 24)) _ _ _ HA2 hN2 (by omega) (by have:=jh (n:=2^(k % 24)) (k:=24) (by have:=rQ (Nat.mod_lt k (by decide:0<24));omega);omega)).mono ?_;rintro e w3 ⟨v3,rfl,hN3,hb3⟩;have hbA:=(hb1.trans (hb2.mono hb1.size)).trans (hb3.mono (Nat.le_trans hb1.size hb2.size))
  have hne:digits (a*2^(k % 24))≠[]:=by
   rw[Ne,d6];exact Nat.mul_ne_zero h0 (Nat.ne_of_gt (Nat.two_pow_pos _))
  obtain⟨ao3,c3,rfl,hc3,hcell3⟩:=hN3.open;obtain⟨b3,o3,rfl,hbl3,hcell3⟩:=hcell3.resolve_left (fun e=>hne (List.length_eq_zero_iff.1 e));have hl3:=Gp a k;have hown3:=nY (nY hown1 hb2) hb3;have HUP:Hid (digits (a*2^k)=List.replicate (k / 24) 0++digits (a*2^(k % 24))):=Bt h0;have hd3:Hid (∀d∈digits (a*2^(k % 24)),d<16777216):=eZ _;clear hN2 hN3 HA2 hown1 hb1 hb2 hb3 hne;generalize digits (a*2^(k % 24))=l3 at*;have hcl:=hid hcell3;clear hcell3
  go_wp2_with (first
   |(at_builtin;refine wpList_append_own _ rfl _ _ 40 rfl w.heap.size 3 i0 (iV 0) 1 8 Tryz.underlying40 hi hz0 hz1 hz2 rfl (by decide) _ _ _ rfl hown3 ⟨b3,o3,none⟩ l3.length c3 (l3.map dv) rfl (by simp) ?a1 ?a2 ?a3 ?a4 ?a5 ?_)
   |go_in)
  case a1=>
   intro j u hj;rw[List.getElem?_map] at hj
   have hjl:j<l3.length:=by
    rcases Nat.lt_or_ge j l3.length with h|h
    ·exact h
    ·rw[List.getElem?_eq_none h] at hj;simp at hj
   rw[List.getElem?_eq_getElem hjl] at hj;have:=hcl.out j hjl
   have ea:(Addr.mk b3 o3 none).add j=⟨b3,o3+j,none⟩:=by
    by_cases h:j=0
    ·subst h;simp[Addr.add]
    ·simp[Addr.add,h]
   rw[ea,this];simpa[dv,List.getD,List.getElem?_eq_getElem hjl] using hj
  case a2=>
   intro u hu;obtain⟨d,_,rfl⟩:=List.mem_map.1 hu
   rfl
  case a3=>unfold maxLen;omega
  case a4=>omega
  case a5=>have:=hbA.size;omega
  intro v' w4 hown4 hgrow4 _;have hb4:=hbA.grown hgrow4 (hbA.size) (fun k hk=>(hown3.lt k hk).1)
  have hfin:aq w4 v' (a*2^k):=by
   unfold aq;rw[HUP.out];refine Dig.of_owns (B:=w.heap.size) ?_ ?_
   ·simpa using hown4
   ·intro d hd;rcases List.mem_append.1 hd with hd|hd
    ·rw[List.eq_of_mem_replicate hd];omega
    ·exact hd3.out d hd
  clear hown4 hgrow4 hown3;go_wp2
  go_ret
  exact⟨_,rfl,hfin,hb4⟩
def aM (w:World) (x:Value) (s:Bool) (n:Nat) (e:Int):Prop:=
 ∃ao len cap,x= .agg #[.bool s,.slice ao len cap,iV e]∧len=(digits n).length∧aq w (.slice ao len cap) n
theorem aq.slice {w:World} {v:Value} {n:Nat} (h:aq w v n):∃ao cap,v= .slice ao (digits n).length cap:=by
 obtain⟨ao,cap,rfl,_⟩:=h.open;exact⟨_,_,rfl⟩
theorem aM.mk {w:World} {v:Value} {s:Bool} {n:Nat} {e:Int} (h:aq w v n):aM w (.agg #[.bool s,v,iV e]) s n e:=by
 obtain⟨ao,cap,rfl⟩:=h.slice;exact⟨_,_,_,rfl,rfl,h⟩
theorem aM.below {w w':World} {x:Value} {s:Bool} {n:Nat} {e:Int} {B:Nat} (h:aM w x s n e) (hb:Below B w w') (hB:w.heap.size≤B):aM w' x s n e:=by
 obtain⟨ao,len,cap,rfl,hl,h⟩:=h;exact⟨_,_,_,rfl,hl,h.below hb hB⟩
theorem aM.keeps {w w':World} {x:Value} {s:Bool} {n:Nat} {e:Int} (h:aM w x s n e) (k:aU w w'):aM w' x s n e:=by
 obtain⟨ao,len,cap,rfl,hl,h⟩:=h;exact⟨_,_,_,rfl,hl,h.keeps k⟩
def aZ (w:World) (g:Nat) (t:TypeId):Prop:=∃(vs:Array Value) (fz:Nat×Nat),w.heap[g]?=some (Obj.cells vs t fz)
theorem aZ.of {w:World} {g:Nat} {t:TypeId} {vs:Array Value} {fz:Nat×Nat} (h:w.heap[g]?=some (Obj.cells vs t fz)):aZ w g t:=⟨vs,fz,h⟩
theorem aZ.set {w:World} {g:Nat} {t:TypeId} (h:aZ w g t) {a:Addr} {u:Value}:aZ (w.setCell a u) g t:=by
 obtain⟨vs,fz,h⟩:=h;by_cases e:g=a.block
 ·subst e;simp only[aZ,World.setCell,Array.getElem?_modify,if_true,h,Option.map_some];exact⟨_,_,rfl⟩
 ·exact⟨vs,fz,by rw[Below.heap_setCell _ _ _ _ e];exact h⟩
theorem aZ.drew {w:World} {g:Nat} {t:TypeId} (h:aZ w g t):aZ w.drew g t:=h
theorem aZ.alloc {w:World} {g:Nat} {t:TypeId} (h:aZ w g t) (o:Obj):aZ (w.alloc o) g t:=by
 obtain⟨vs,fz,h⟩:=h;exact⟨vs,fz,by rw[Below.heap_alloc _ _ _ (Array.getElem?_eq_some_iff.1 h).1];exact h⟩
theorem aU.set {a w:World} (k:aU a w) {g j:Nat} {t:TypeId} (h:aZ w g t) (ht:t≠3) {u:Value}:aU a (w.setCell ⟨g,j,none⟩ u):=fun b cur hb=>by
 obtain⟨vs,fz,h⟩:=h;have h1:=k b cur hb
 have hne:b≠g:=by
  rintro rfl;rw[h] at h1;simp only[Option.some.injEq,Obj.cells.injEq] at h1;exact ht h1.2.1
 rw[Below.heap_setCell _ _ _ _ (by exact hne)];exact h1
theorem aq.zero (w:World):aq w (.slice none 0 0) 0:=⟨by simp[cK],Or.inl ⟨rfl,rfl⟩⟩
theorem dA (n:Nat):(digits n).length=0↔n=0:=by rw[List.length_eq_zero_iff,d6]
def aQ (s:Bool) (n:Nat):Bool:=!s && decide (n≠0)
theorem qa (x:Value) (s:Bool) (n:Nat) (e:Int) (w:World) (h:aM w x s n e):
  ax 61 #[x] w fun ev w'=>∃x',ev= .returned x'∧aM w' x' (aQ s n) n e∧Below w.heap.size w w':=by
 obtain⟨ao,len,cap,rfl,hl,hN⟩:=h;have HL:=hid hl;clear hl
 cases s
 ·by_cases h0:len=0
  ·subst h0;have e0:=(dA n).1 HL.out.symm;have r:aQ false n=false:=by simp[aQ,e0]
   rw[r];have fin:∀W,Below w.heap.size w W→∃x',Ending.returned (.agg #[.bool false,.slice ao 0 cap,iV e])= .returned x'∧aM W x' false n e∧Below w.heap.size w W:=fun W hW=>⟨_,rfl,⟨_,_,_,rfl,HL.out,hN.below hW ae⟩,hW⟩
   clear e0 r hN;go_enter Tryz.func61,Tryz.ntmps61;go_wp2;refine bodyPost_ret (v:= .agg #[.bool false,.slice ao 0 cap,iV e]) (by simp[results,Tryz.results61,go_sem]) rfl ?_;exact fin _ (aJ.alloc (by simp) _)
  ·have e0:n≠0:=fun h=>h0 (by rw[HL.out];exact(dA n).2 h)
   have r:aQ false n=true:=by simp[aQ,e0]
   rw[r];have fin:∀W,Below w.heap.size w W→∃x',Ending.returned (.agg #[.bool true,.slice ao len cap,iV e])= .returned x'∧aM W x' true n e∧Below w.heap.size w W:=fun W hW=>⟨_,rfl,⟨_,_,_,rfl,HL.out,hN.below hW ae⟩,hW⟩
   have h1:0<len:=by omega
   clear e0 r hN;go_enter Tryz.func61,Tryz.ntmps61;go_wp2;refine bodyPost_ret (v:= .agg #[.bool true,.slice ao len cap,iV e]) (by simp[results,Tryz.results61,go_sem]) rfl ?_;exact fin _ (aJ.alloc (by simp) _)
 ··have r:aQ true n=false:=by simp[aQ]
   rw[r];have fin:∀W,Below w.heap.size w W→∃x',Ending.returned (.agg #[.bool false,.slice ao len cap,iV e])= .returned x'∧aM W x' false n e∧Below w.heap.size w W:=fun W hW=>⟨_,rfl,⟨_,_,_,rfl,HL.out,hN.below hW ae⟩,hW⟩
   clear r hN;go_enter Tryz.func61,Tryz.ntmps61;go_wp2;refine bodyPost_ret (v:= .agg #[.bool false,.slice ao len cap,iV e]) (by simp[results,Tryz.results61,go_sem]) rfl ?_;exact fin _ (aJ.alloc (by simp) _)
def sgnI (s:Bool) (n:Nat):Int:=if n=0 then 0 else if s then -1 else 1
theorem fw (x:Value) (s:Bool) (n:Nat) (e:Int) (w:World) (h:aM w x s n e):
  aw 69 #[x] w (iV (sgnI s n)):=by
 obtain⟨ao,len,cap,rfl,hl,hN⟩:=h;have HL:=hid hl;clear hl hN;by_cases h0:len=0
 ·subst h0;have e0:=(dA n).1 HL.out.symm;rw[show sgnI s n=0 by simp[sgnI,e0]];clear e0;go_enter Tryz.func69,Tryz.ntmps69;go_wp2
  go_ret
  exact⟨rfl,aK.alloc ae _⟩
 ·have e0:n≠0:=fun h=>h0 (by rw[HL.out];exact(dA n).2 h)
  have h1:((len:Int)==0)=false:=by simp;omega
  cases s
  ·rw[show sgnI false n=1 by simp[sgnI,e0]];clear e0;go_enter Tryz.func69,Tryz.ntmps69;go_wp2
   go_ret
   exact⟨rfl,aK.alloc ae _⟩
  ·rw[show sgnI true n=-1 by simp[sgnI,e0]];clear e0;go_enter Tryz.func69,Tryz.ntmps69;go_wp2
   go_ret
   exact⟨rfl,aK.alloc ae _⟩
theorem Ih {W w1:World} (hb:Below W.heap.size W w1):(∀b o,b<W.heap.size→w1.cell? ⟨b,o,none⟩=W.cell? ⟨b,o,none⟩)∧(∀b o,b<W.heap.size→w1.frozen? ⟨b,o,none⟩=W.frozen? ⟨b,o,none⟩):=
 ⟨fun b o h=>hb.cell (p:=⟨b,o,none⟩) h,fun b o h=>hb.frozen (p:=⟨b,o,none⟩) h⟩
theorem aB {W:World} {g:Nat} {a b c:Value} {t:TypeId} (h:W.heap[g]?=some (.cells #[a,b,c] t (0,0))):
  W.cell? ⟨g,0,none⟩=some a∧W.cell? ⟨g,1,none⟩=some b∧W.cell? ⟨g,2,none⟩=some c∧W.frozen? ⟨g,0,none⟩=false∧W.frozen? ⟨g,1,none⟩=false∧W.frozen? ⟨g,2,none⟩=false:=
 ⟨by simp[World.cell?,h],by simp[World.cell?,h],by simp[World.cell?,h],by simp[World.frozen?,h],by simp[World.frozen?,h],by simp[World.frozen?,h]⟩
theorem af (w:World) (o:Obj):(w.alloc o).heap[w.heap.size]?=some o:=heap_alloc_new w o
theorem ai {w:World} {g:Nat} {x:Obj} (h:w.heap[g]?=some x) (o:Obj):(w.alloc o).heap[g]?=some x:=by
 rw[Below.heap_alloc _ _ _ (Array.getElem?_eq_some_iff.1 h).1];exact h
theorem aa {w w1:World} {g:Nat} {x:Obj} (h:w.heap[g]?=some x) (hb:Below w.heap.size w w1):w1.heap[g]?=some x:=by
 rw[hb.block g (Array.getElem?_eq_some_iff.1 h).1];exact h
theorem Ch (xa xb:Value) (sa sb:Bool) (na nb:Nat) (ea eb:Int) (w:World) (ha:aM w xa sa na ea) (hb:aM w xb sb nb eb)
  (hla:(digits na).length≤500000) (hlb:(digits nb).length≤500000) (he1:-400000≤ea) (he2:ea≤400000) (he3:-400000≤eb) (he4:eb≤400000):
  ax 116 #[xa,xb] w fun ev w'=>∃ya yb,ev= .returned (.tuple #[ya,yb])∧aM w' ya sa (na*2^(ea-min ea eb).toNat) (min ea eb)∧aM w' yb sb (nb*2^(eb-min ea eb).toNat) (min ea eb)∧Below w.heap.size w w':=by
 obtain⟨ao,la,ca,rfl,hl1,hNa⟩:=ha;obtain⟨bo,lb,cb,rfl,hl2,hNb⟩:=hb;have HL1:=hid hl1;have HL2:=hid hl2;clear hl1 hl2;by_cases hgt:eb<ea
 ·obtain⟨k,rfl⟩:∃k:Nat,ea=eb+(k:Int):=⟨(ea-eb).toNat,by omega⟩;go_enter Tryz.func116,Tryz.ntmps116;go_wp2_with fail;rw[show eb+(k:Int)-eb=(k:Int) by omega]
  have hW:Below w.heap.size w ((((w.alloc (.cells #[.bool sa,.slice ao la ca,iV (eb+↑k)] 92)).alloc (.cells #[.bool sb,.slice bo lb cb,iV eb] 92)).alloc (.cells #[.bool false,.slice none 0 0,iV 0] 92)).alloc (.cells #[.bool false,.slice none 0 0,iV 0] 92)):=
   ((aJ.alloc (by simp) _).alloc (by simp;omega) _).alloc (by simp;omega) _
  refine(iu na k _ _ (hNa.below hW ae) hla (by omega)).mono ?_;rintro e w1 ⟨v1,rfl,hN1,hb1⟩;obtain⟨ao1,ca1,rfl⟩:=hN1.slice;have hbA:=hW.trans (hb1.mono hW.size);have g0:=aZ.of (aa (ai (ai (ai (af w _) _) _) _) hb1);have g1:aZ w1 (w.heap.size+1) 92:=aZ.of (by have:=aa (ai (ai (af (w.alloc _) _) _) _) hb1;simpa only[World.size_alloc] using this);have g2:aZ w1 (w.heap.size+1+1) 92:=aZ.of (by have:=aa (ai (af ((w.alloc _).alloc _) _) _) hb1;simpa only[World.size_alloc] using this);have g3:aZ w1 (w.heap.size+1+1+1) 92:=aZ.of (by have:=aa (af (((w.alloc _).alloc _).alloc _) _) hb1;simpa only[World.size_alloc] using this);obtain⟨k00,k01,k02,k03,k04,k05⟩:=aB (aa (ai (ai (ai (af w _) _) _) _) hb1);obtain⟨k10,k11,k12,k13,k14,k15⟩:=aB (aa (ai (ai (af (w.alloc _) _) _) _) hb1);obtain⟨k20,k21,k22,k23,k24,k25⟩:=aB (aa (ai (af ((w.alloc _).alloc _) _) _) hb1);obtain⟨k30,k31,k32,k33,k34,k35⟩:=aB (aa (af (((w.alloc _).alloc _).alloc _) _) hb1);simp only[World.size_alloc] at k10 k11 k12 k13 k14 k15 k20 k21 k22 k23 k24 k25 k30 k31 k32 k33 k34 k35
  have fin:∀W,Below w.heap.size w W→aU w1 W→∃ya yb,Ending.returned (.tuple #[.agg #[.bool sa,.slice ao1 (digits (na*2^k)).length ca1,iV eb],.agg #[.bool sb,.slice bo lb cb,iV eb]])= .returned (.tuple #[ya,yb])∧aM W ya sa (na*2^(eb+(k:Int)-min (eb+(k:Int)) (eb)).toNat) (min (eb+(k:Int)) (eb))∧aM W yb sb (nb*2^(eb-min (eb+(k:Int)) (eb)).toNat) (min (eb+(k:Int)) (eb))∧Below w.heap.size w W:=by
   intro W hW1 hK;rw[show min (eb+(k:Int)) (eb)=eb by omega];rw[show(eb+(k:Int)-eb).toNat=k by omega,show(eb-eb).toNat=0 by omega];rw[Nat.pow_zero,Nat.mul_one];exact⟨_,_,rfl,⟨_,_,_,rfl,rfl,hN1.keeps hK⟩,⟨_,_,_,rfl,HL2.out,(hNb.below hbA ae).keeps hK⟩,hW1⟩
  clear hW hN1 hb1 hNa hNb;go_wp2_with fail;go_region;go_wp2;refine bodyPost_ret (v:= .tuple #[.agg #[.bool sa,.slice ao1 (digits (na*2^k)).length ca1,iV eb],.agg #[.bool sb,.slice bo lb cb,iV eb]]) (by simp[results,Tryz.results116,go_sem,k20,k21,k22,k30,k31,k32]) rfl ?_;refine fin _ ?_ ?_
  ·refine Below.drew ?_
   repeat refine Below.setCell ?_ (by simp;try omega) _
   exact hbA
  ·refine aU.trans ?_ (aU.drew _)
   repeat refine aU.set ?_ (t:=92) (by(repeat refine aZ.set ?_);first|exact g0|exact g1|exact g2|exact g3) (by decide)
   exact aU.refl _
 ·obtain⟨k,rfl⟩:∃k:Nat,eb=ea+(k:Int):=⟨(eb-ea).toNat,by omega⟩;go_enter Tryz.func116,Tryz.ntmps116;go_wp2_with fail;rw[show ea+(k:Int)-ea=(k:Int) by omega]
  have hW:Below w.heap.size w ((((w.alloc (.cells #[.bool sa,.slice ao la ca,iV ea] 92)).alloc (.cells #[.bool sb,.slice bo lb cb,iV (ea+↑k)] 92)).alloc (.cells #[.bool false,.slice none 0 0,iV 0] 92)).alloc (.cells #[.bool false,.slice none 0 0,iV 0] 92)):=
   ((aJ.alloc (by simp) _).alloc (by simp;omega) _).alloc (by simp;omega) _
  refine(iu nb k _ _ (hNb.below hW ae) hlb (by omega)).mono ?_;rintro e w1 ⟨v1,rfl,hN1,hb1⟩;obtain⟨ao1,ca1,rfl⟩:=hN1.slice;have hbA:=hW.trans (hb1.mono hW.size);have g0:=aZ.of (aa (ai (ai (ai (af w _) _) _) _) hb1);have g1:aZ w1 (w.heap.size+1) 92:=aZ.of (by have:=aa (ai (ai (af (w.alloc _) _) _) _) hb1;simpa only[World.size_alloc] using this);have g2:aZ w1 (w.heap.size+1+1) 92:=aZ.of (by have:=aa (ai (af ((w.alloc _).alloc _) _) _) hb1;simpa only[World.size_alloc] using this);have g3:aZ w1 (w.heap.size+1+1+1) 92:=aZ.of (by have:=aa (af (((w.alloc _).alloc _).alloc _) _) hb1;simpa only[World.size_alloc] using this);obtain⟨k00,k01,k02,k03,k04,k05⟩:=aB (aa (ai (ai (ai (af w _) _) _) _) hb1);obtain⟨k10,k11,k12,k13,k14,k15⟩:=aB (aa (ai (ai (af (w.alloc _) _) _) _) hb1);obtain⟨k20,k21,k22,k23,k24,k25⟩:=aB (aa (ai (af ((w.alloc _).alloc _) _) _) hb1);obtain⟨k30,k31,k32,k33,k34,k35⟩:=aB (aa (af (((w.alloc _).alloc _).alloc _) _) hb1);simp only[World.size_alloc] at k10 k11 k12 k13 k14 k15 k20 k21 k22 k23 k24 k25 k30 k31 k32 k33 k34 k35
  have fin:∀W,Below w.heap.size w W→aU w1 W→∃ya yb,Ending.returned (.tuple #[.agg #[.bool sa,.slice ao la ca,iV ea],.agg #[.bool sb,.slice ao1 (digits (nb*2^k)).length ca1,iV ea]])= .returned (.tuple #[ya,yb])∧aM W ya sa (na*2^(ea-min (ea) (ea+(k:Int))).toNat) (min (ea) (ea+(k:Int)))∧aM W yb sb (nb*2^(ea+(k:Int)-min (ea) (ea+(k:Int))).toNat) (min (ea) (ea+(k:Int)))∧Below w.heap.size w W:=by
   intro W hW1 hK;rw[show min (ea) (ea+(k:Int))=ea by omega];rw[show(ea-ea).toNat=0 by omega,show(ea+(k:Int)-ea).toNat=k by omega];rw[Nat.pow_zero,Nat.mul_one];exact⟨_,_,rfl,⟨_,_,_,rfl,HL1.out,(hNa.below hbA ae).keeps hK⟩,⟨_,_,_,rfl,rfl,hN1.keeps hK⟩,hW1⟩
  clear hW hN1 hb1 hNa hNb;go_wp2_with fail;go_region;go_wp2;refine bodyPost_ret (v:= .tuple #[.agg #[.bool sa,.slice ao la ca,iV ea],.agg #[.bool sb,.slice ao1 (digits (nb*2^k)).length ca1,iV ea]]) (by simp[results,Tryz.results116,go_sem,k20,k21,k22,k30,k31,k32]) rfl ?_;refine fin _ ?_ ?_
  ·refine Below.drew ?_
   repeat refine Below.setCell ?_ (by simp;try omega) _
   exact hbA
  ·refine aU.trans ?_ (aU.drew _)
   repeat refine aU.set ?_ (t:=92) (by(repeat refine aZ.set ?_);first|exact g0|exact g1|exact g2|exact g3) (by decide)
   exact aU.refl _
end
end Go.Proofs.YtonhpkigoplmaaaGreatDoor
