import Derived.Test.YtonhpkigoplmaaaGreatDoorZ09
import Derived.Test.YtonhpkigoplmaaaGreatDoorZ11
set_option maxRecDepth 100000
set_option maxHeartbeats 40000000
namespace Go.Proofs.YtonhpkigoplmaaaGreatDoor
section
open Go.RowKit Go.Extern Ieee
def bC (x:ap):ap:=(aQ x.1 x.2.1,x.2.1,x.2.2)
def sumT (x y:ap):ap:=sumN x.1 x.2.1 x.2.2 y.1 y.2.1 y.2.2
def ez (a b c d:ap):Nat×Nat×Nat:=az (de a b c d (bR (de a b c d) 3)) (de a b c d (bS (de a b c d) 3))
def refOpN (k:Int) (a1 a2 b1 b2:ap):Nat×Nat×Nat×ByteArray:=
 if k=0 then((az (bC a2) (bC a1)).1,(az (bC a2) (bC a1)).2.1,0,⟨#[]⟩)
 else if k=1 then((ez a1 a2 b1 b2).1,(ez a1 a2 b1 b2).2.1,0,⟨#[]⟩)
 else if k=2 then((jA a1 a2 b1 b2).1,(jA a1 a2 b1 b2).2.1,(jA a1 a2 b1 b2).2.2,⟨#[]⟩)
 else if k=3 then aO (az (sumT a1 b1) (sumT a2 b2)) ⟨#[43]⟩
 else if k=4 then aO (az (sumT a1 (bC b2)) (sumT a2 (bC b1))) ⟨#[45]⟩
 else if k=5 then aO (ez (aT a1 b1) (aT a1 b2) (aT a2 b1) (aT a2 b2)) ⟨#[42]⟩
 else if k=6 then(if holdsT b1 b2=true then(0,0,4,⟨#[47]⟩) else aO (ez (quoN a1 b1) (quoN a1 b2) (quoN a2 b1) (quoN a2 b2)) ⟨#[47]⟩)
 else if k=7 then(if sgnI a1.1 a1.2.1<0 then(0,0,5,⟨#[115,113,114,116]⟩) else aO (az (eR a1) (eR a2)) ⟨#[115,113,114,116]⟩)
 else((az a1 a2).1,(az a1 a2).2.1,0,⟨#[]⟩)
theorem kk {e z:Int} {x:ap} (h:bj e z x):bj e (-z) (bC x):=by
 obtain⟨s,n,p⟩:=x;intro c h1 h2;have:=h c h1 h2;simp only at this
 show sg (aQ s n) (n*2^(p-c).toNat)=_
 rw[Int.neg_mul,←this];unfold aQ sg;by_cases h0:n=0
 ·subst h0;simp
 ·cases s<;>simp[h0]
theorem Bf {e z:Int} {x:ap} (h:bj e z x):sgnI x.1 x.2.1<0↔z<0:=by
 obtain⟨s,n,p⟩:=x;have:=h (min e p) (by simp only;omega) (by omega);simp only at this;have hp1:=Nat.two_pow_pos (p-min e p).toNat
 have hp2:=Nat.two_pow_pos (e-min e p).toNat
 have hz:z<0↔sg s (n*2^(p-min e p).toNat)<0:=by
  rw[this];constructor
  ·intro hz;exact Int.mul_neg_of_neg_of_pos hz (by omega)
  ·intro hz;apply Decidable.byContradiction;intro hc;have:=Int.mul_nonneg (show 0≤z by omega) (Int.natCast_nonneg (2^(e-min e p).toNat));omega
 rw[hz];unfold sgnI sg;simp only;by_cases h0:n=0
 ·subst h0;simp
 ·have:0<n*2^(p-min e p).toNat:=Nat.mul_pos (Nat.pos_of_ne_zero h0) hp1;rw[if_neg h0];generalize n*2^(p-min e p).toNat=N at*
  cases s
  ·rw[if_neg Bool.false_ne_true,if_neg Bool.false_ne_true];omega
  ·rw[if_pos rfl,if_pos rfl];omega
theorem bk (x:ap) {e:Int} (h:e≤x.2.2):bj e (sg x.1 (x.2.1*2^(x.2.2-e).toNat)) x:=by
 obtain⟨s,n,p⟩:=x;intro c h1 h2;simp only at*;rw[bG,Nat.mul_assoc,←Nat.pow_add]
 congr 3
 omega
theorem dw {e a b:Int} {x y:ap} (hx:bj e a x) (hy:bj e b y):lessT x y=true↔a<b:=by
 unfold lessT kF;rw[decide_eq_true_eq];have:=dx hx (kk hy);have h2:=Bf this;rw[show a<b↔a+-b<0 by omega];exact h2
theorem gl (x y:ap):(lessT x y=true→leV x y)∧(lessT x y=false→leV y x):=by
 have hx:=bk x (e:=min x.2.2 y.2.2) (by omega);have hy:=bk y (e:=min x.2.2 y.2.2) (by omega);have h:=dw hx hy;constructor
 ·intro ht;exact bY hx hy (by have:=h.1 ht;omega)
 ·intro hf;refine bY hy hx ?_;apply Decidable.byContradiction;intro hc;rw[h.2 (by omega)] at hf
  cases hf
theorem nB (x:ap):lessT x x=false:=by
 have hx:=bk x (Int.le_refl _)
 cases h:lessT x x
 ·rfl
 ·have:=(dw hx hx).1 h;omega
theorem tq (x:Nat→ap) (i:Nat):ar (x (bR x (i+1))) (-1)=min (ar (x (bR x i)) (-1)) (ar (x (i+1)) (-1)):=by
 show ar (x (if lessT (x (i+1)) (x (bR x i))=true then i+1 else bR x i)) (-1)=_
 cases h:lessT (x (i+1)) (x (bR x i))
 ·rw[if_neg Bool.false_ne_true];have:=cj (-1) (Or.inl rfl) ((gl _ _).2 h);omega
 ·rw[if_pos rfl];have:=cj (-1) (Or.inl rfl) ((gl _ _).1 h);omega
theorem sJ (x:Nat→ap) (i:Nat):ar (x (bS x (i+1))) 1=max (ar (x (bS x i)) 1) (ar (x (i+1)) 1):=by
 show ar (x (if lessT (x (bS x i)) (x (i+1))=true then i+1 else bS x i)) 1=_
 cases h:lessT (x (bS x i)) (x (i+1))
 ·rw[if_neg Bool.false_ne_true];have:=cj 1 (Or.inr rfl) ((gl _ _).2 h);omega
 ·rw[if_pos rfl];have:=cj 1 (Or.inr rfl) ((gl _ _).1 h);omega
theorem fZ (a b c d:ap):ez a b c d=boxP (min (min (min (ar a (-1)) (ar b (-1))) (ar c (-1))) (ar d (-1))) (max (max (max (ar a 1) (ar b 1)) (ar c 1)) (ar d 1)):=by
 unfold ez;rw[bP];have l2:=tq (de a b c d) 2;have l1:=tq (de a b c d) 1;have l0:=tq (de a b c d) 0;have g2:=sJ (de a b c d) 2;have g1:=sJ (de a b c d) 1;have g0:=sJ (de a b c d) 0;have e0:de a b c d (bR (de a b c d) 0)=a:=rfl;have f0:de a b c d (bS (de a b c d) 0)=a:=rfl;rw[e0] at l0;rw[f0] at g0;rw[l0] at l1;rw[l1] at l2;rw[g0] at g1;rw[g1] at g2;rw[l2,g2]
 rfl
theorem ji (p q:Int) (s:ByteArray):aO (boxP p q) s=((boxP p q).1,(boxP p q).2.1,(boxP p q).2.2,opS s (boxP p q).2.2):=by
 unfold aO boxP opS;split
 ·rfl
 ·rfl
structure Iv (l h:Nat):Prop where
 lt1:l<18446744073709551616
 lt2:h<18446744073709551616
 z1:l≠9223372036854775808
 z2:h≠9223372036854775808
 p1:au l=some (plT l)
 p2:au h=some (plT h)
 le:aW l≤aW h
theorem Iv.f1 {l h:Nat} (i:Iv l h):FR l (aW l):=wB i.lt1 i.z1 (by rw[i.p1];rfl)
theorem Iv.f2 {l h:Nat} (i:Iv l h):FR h (aW h):=wB i.lt2 i.z2 (by rw[i.p2];rfl)
theorem Iv.q1 {l h:Nat} (i:Iv l h):plP (aW l)=true:=by rw[←i.f1.plain,i.p1];rfl
theorem Iv.q2 {l h:Nat} (i:Iv l h):plP (aW h)=true:=by rw[←i.f2.plain,i.p2];rfl
theorem Iv.v1 {l h:Nat} (i:Iv l h) (way:Int):ar (plT l) way=aW l:=gN i.lt1 i.p1 way
theorem Iv.v2 {l h:Nat} (i:Iv l h) (way:Int):ar (plT h) way=aW h:=gN i.lt2 i.p2 way
theorem cC {b:Nat} (h:(au b).isSome=true):au b=some (plT b):=by
 unfold plT
 cases hb:au b with
 |none=>rw[hb] at h;cases h
 |some x=>rfl
theorem dU (b:Nat) (hb:b<18446744073709551616):au (posW b)=au b:=by
 unfold posW;split
 ·rename_i h
  have:b=0∨b=9223372036854775808:=by omega
  rcases this with rfl|rfl<;>rfl
 ·rfl
theorem mJ (b:Nat):posW b≠9223372036854775808:=by
 unfold posW;split
 ·decide
 ·intro hc;subst hc;rename_i h;exact h rfl
theorem dZ (lo hi:Nat) (h1:lo<18446744073709551616) (h2:hi<18446744073709551616):Iv (makeN lo hi).1 (makeN lo hi).2.1:=by
 have z:Iv 0 0:=⟨by omega,by omega,by omega,by omega,rfl,rfl,Int.le_refl _⟩;unfold makeN;split
 ·exact z
 ·rename_i hp
  split
  ·exact z
  ·rename_i hl
   have p1:(au lo).isSome=true:=by cases h:(au lo).isSome<;>simp_all
   have p2:(au hi).isSome=true:=by cases h:(au hi).isSome<;>simp_all
   have e1:plT (posW lo)=plT lo:=by unfold plT;rw[dU _ h1]
   have e2:plT (posW hi)=plT hi:=by unfold plT;rw[dU _ h2]
   have q1:au (posW lo)=some (plT lo):=by rw[dU _ h1];exact cC p1
   have q2:au (posW hi)=some (plT hi):=by rw[dU _ h2];exact cC p2
   refine⟨fP h1,fP h2,mJ _,mJ _,by rw[e1];exact q1,by rw[e2];exact q2,?_⟩;rw[←gN (fP h1) q1 1,←gN (fP h2) q2 1];refine cj 1 (Or.inr rfl) ((gl (plT hi) (plT lo)).2 ?_)
   cases hh:lessT (plT hi) (plT lo)
   ·rfl
   ·exact absurd hh hl
theorem fq {p q:Int} (h1:plP p=true) (h2:plP q=true):boxP p q=(wdP p,wdP q,0):=by
 unfold boxP;rw[if_pos ⟨h1,h2⟩]
theorem Iv.box {l h:Nat} (i:Iv l h):boxP (aW l) (aW h)=(l,h,0):=by
 rw[fq i.q1 i.q2,←i.f1.word i.q1,←i.f2.word i.q2]
theorem dX {a b l h:Nat} (i:Iv l a) (j:Iv h b):lessT (plT a) (plT b)=decide (aW a<aW b):=by
 cases hl:lessT (plT a) (plT b)
 ·have:=cj 1 (Or.inr rfl) ((gl _ _).2 hl);rw[i.v2,j.v2] at this;rw[decide_eq_false (by omega)]
 ·have:=cj 1 (Or.inr rfl) ((gl _ _).1 hl);rw[i.v2,j.v2] at this;rw[decide_eq_true];apply Decidable.byContradiction;intro hc;have he:aW a=aW b:=by omega
  have:a=b:=by
   rw[i.f2.word i.q2,j.f2.word j.q2,he]
  subst this;rw[nB] at hl
  cases hl
theorem Iv.low {l h:Nat} (i:Iv l h):Iv l l:=⟨i.lt1,i.lt1,i.z1,i.z1,i.p1,i.p1,Int.le_refl _⟩
theorem Iv.high {l h:Nat} (i:Iv l h):Iv h h:=⟨i.lt2,i.lt2,i.z2,i.z2,i.p2,i.p2,Int.le_refl _⟩
theorem vQ (d:Nat):kw d=if 9223372036854775808≤d then -((d % 9223372036854775808:Nat):Int) else((d % 9223372036854775808:Nat):Int):=by
 unfold kw sg;by_cases h:9223372036854775808≤d
 ·rw[decide_eq_true h,if_pos rfl,if_pos h]
 ·rw[decide_eq_false h,if_neg Bool.false_ne_true,if_neg h]
theorem sH {b:Nat} (hb:b<18446744073709551616):negW b=if 9223372036854775808≤b then b-9223372036854775808 else b+9223372036854775808:=by
 have:=pF (s:=decide (9223372036854775808≤b)) (R:=b % 9223372036854775808) (by omega);rw[gZ hb] at this;rw[this];unfold wd;by_cases h:9223372036854775808≤b
 ·rw[decide_eq_true h,if_pos h];simp;omega
 ·rw[decide_eq_false h,if_neg h];simp;omega
theorem iY {b:Nat} {x:ap} (hb:b<18446744073709551616) (h:au b=some x):au (negW b)=some (bC x):=by
 have hn:=sH hb;have e1:negW b / 4503599627370496 % 2048=b / 4503599627370496 % 2048:=by rw[hn];split<;>omega
 have e2:negW b % 4503599627370496=b % 4503599627370496:=by rw[hn];split<;>omega
 have e3:negW b / 9223372036854775808=1↔¬b / 9223372036854775808=1:=by rw[hn];split<;>omega
 unfold au at h⊢;rw[e1,e2];split at h
 ·rename_i h0
  rw[if_pos h0]
  cases h;rfl
 ·rename_i h0
  rw[if_neg h0];split at h
  ·cases h
  ·rename_i h1
   rw[if_neg h1]
   cases h
   unfold bC aQ;simp only
   congr 2
   by_cases hd:b / 9223372036854775808=1
   ·rw[decide_eq_true hd,decide_eq_false (fun hc=>e3.1 hc hd)];rfl
   ·rw[decide_eq_false hd,decide_eq_true (e3.2 hd)];simp
theorem g8 {b:Nat} (hb:b<18446744073709551616):negW b<18446744073709551616:=by
 rw[sH hb];split<;>omega
theorem j6 {l h:Nat} (i:Iv l h):∃o,FloatKind.f64.format.order l 0=some o∧(o= .lt↔sgnI (plT l).1 (plT l).2.1<0)∧(o= .gt↔0<sgnI (plT l).1 (plT l).2.1):=by
 have ho:=lv i.f1 jb;refine⟨_,ho,?_⟩;have k0:kw 0=0:=rfl;rw[k0,vQ];have hp:=i.p1;have h1:=i.lt1;have h2:=i.z1;generalize plT l=x at*;unfold au at hp;split at hp
 ·rename_i h0
  have:l=0:=by omega
  subst this
  cases hp
  decide
 ·rename_i h0
  split at hp
  ·cases hp
  ·cases hp
   unfold sgnI;simp only;rw[if_neg (show¬l % 4503599627370496+4503599627370496=0 by omega)];by_cases hd:9223372036854775808≤l
   ·rw[if_pos hd,decide_eq_true (show l / 9223372036854775808=1 by omega)];have:compare (-((l % 9223372036854775808:Nat):Int)) 0= .lt:=Int.compare_eq_lt.2 (by omega);rw[this];simp
   ·rw[if_neg hd,decide_eq_false (show¬l / 9223372036854775808=1 by omega)];have:compare ((l % 9223372036854775808:Nat):Int) 0= .gt:=Int.compare_eq_gt.2 (by omega);rw[this];simp
theorem Cy (x y:ap):jQ x.1 x.2.1 x.2.2 y.1 y.2.1 y.2.2=quoN x y:=by
 have e:∀q w,mkN q w=2*q+(if w then 0 else 1):=fun q w=>by unfold mkN;omega
 unfold jQ quoN gT;rw[e]
theorem Gr (e:Int):rkT e=rk 130 e:=by
 unfold rkT rk;rfl
theorem AB {x:ap} {c:Nat} (h:mN (x.2.1*2^rkT x.2.2) c):((false,mkN c (decide (c*c=x.2.1*2^rkT x.2.2)),(x.2.2-rkT x.2.2) / 2-1):ap)=eR x:=by
 rw[Gr] at h⊢;have hc:=vX h.1 h.2;unfold eR gT mkN;rw[hc];simp only[Bool.false_and]
 congr 2
 omega
end
section
open Go.RowKit
abbrev SmH (f:Nat) (x y q:ap):Prop:=∀(W:World) (po qo:Option Addr) (lp cp lq cq:Nat),lp=(digits x.2.1).length→aq W (.slice po lp cp) x.2.1→lq=(digits y.2.1).length→aq W (.slice qo lq cq) y.2.1→ax f #[.agg #[.bool x.1,.slice po lp cp,iV x.2.2],.agg #[.bool y.1,.slice qo lq cq,iV y.2.2]] W fun ev w''=>∃vo vl vc,ev= .returned (.agg #[.bool q.1,.slice vo vl vc,iV q.2.2])∧vl=(digits q.2.1).length∧aq w'' (.slice vo vl vc) q.2.1∧Below W.heap.size W w''
abbrev RtH (x q:ap):Prop:=∀(W:World) (po:Option Addr) (lp cp:Nat),lp=(digits x.2.1).length→aq W (.slice po lp cp) x.2.1→ax 70 #[.agg #[.bool x.1,.slice po lp cp,iV x.2.2]] W fun ev w''=>∃vo vl vc,ev= .returned (.agg #[.bool q.1,.slice vo vl vc,iV q.2.2])∧vl=(digits q.2.1).length∧aq w'' (.slice vo vl vc) q.2.1∧Below W.heap.size W w''
abbrev ArH (x y:ap) (r1 r2 r3:Nat):Prop:=∀(W:World) (o0 o1:Option Addr) (l0 l1 c0 c1:Nat),l0=(digits x.2.1).length→l1=(digits y.2.1).length→aq W (.slice o0 l0 c0) x.2.1→aq W (.slice o1 l1 c1) y.2.1→aw 62 #[.agg #[.bool x.1,.slice o0 l0 c0,iV x.2.2],.agg #[.bool y.1,.slice o1 l1 c1,iV y.2.2]] W (.tuple #[gU r1 r2,iV (r3:Int)])
abbrev SpH (x0 x1 x2 x3:ap) (r1 r2 r3:Nat):Prop:=∀(g:Nat) (W:World) (o0 o1 o2 o3:Option Addr) (l0 l1 l2 l3 c0 c1 c2 c3:Nat),W.heap[g]?=some (.cells #[.bool x0.1,.slice o0 l0 c0,iV x0.2.2,.bool x1.1,.slice o1 l1 c1,iV x1.2.2,.bool x2.1,.slice o2 l2 c2,iV x2.2.2,.bool x3.1,.slice o3 l3 c3,iV x3.2.2] 92 (0,0))→l0=(digits x0.2.1).length→l1=(digits x1.2.1).length→l2=(digits x2.2.1).length→l3=(digits x3.2.1).length→aq W (.slice o0 l0 c0) x0.2.1→aq W (.slice o1 l1 c1) x1.2.1→aq W (.slice o2 l2 c2) x2.2.1→aq W (.slice o3 l3 c3) x3.2.1→aw 63 #[.slice (some ⟨g,0,none⟩) 4 4] W (.tuple #[gU r1 r2,iV (r3:Int)])
abbrev MeH (f:Nat) (a1 a2 b1 b2:ap) (r:Nat×Nat×Nat×ByteArray):Prop:=∀(W:World) (va vb:Value),IvV W va a1 a2→IvV W vb b1 b2→aw f #[va,vb] W (.tuple #[gU r.1 r.2.1,iV (r.2.2.1:Int),.string r.2.2.2])
theorem eY (xl xh yl yh:Nat) (a1 a2 b1 b2:ap) (k:Int) (r:Nat×Nat×Nat×ByteArray) (w:World) (hx:dF #[gU xl xh] a1 a2) (hy:dF #[gU yl yh] b1 b2) (hc:(k=0∧∃r1 r2 r3,r=(r1,r2,0,⟨#[]⟩)∧ArH (aQ a2.1 a2.2.1,a2.2.1,a2.2.2) (aQ a1.1 a1.2.1,a1.2.1,a1.2.2) r1 r2 r3)∨
  (k=1∧∃r1 r2 r3,r=(r1,r2,0,⟨#[]⟩)∧SpH a1 a2 b1 b2 r1 r2 r3)∨
  (k=2∧MeH 64 a1 a2 b1 b2 r)∨
  (k=6∧MeH 68 a1 a2 b1 b2 r)∨
  (k=7∧sgnI a1.1 a1.2.1<0∧r=(0,0,5,⟨#[115,113,114,116]⟩))∨
  ((k≠0∧k≠1∧k≠2∧k≠3∧k≠4∧k≠5∧k≠6∧k≠7)∧∃r1 r2 r3,r=(r1,r2,0,⟨#[]⟩)∧ArH a1 a2 r1 r2 r3)∨
  (k=7∧¬sgnI a1.1 a1.2.1<0∧∃q0 q1 r1 r2 r3,r=aO (r1,r2,r3) ⟨#[115,113,114,116]⟩∧RtH a1 q0∧RtH a2 q1∧ArH q0 q1 r1 r2 r3)):
  aw 29 #[iV k,gU xl xh,gU yl yh] w (.tuple #[gU r.1 r.2.1,iV (r.2.2.1:Int),.string r.2.2.2]):=by
 have HX:Hid (dF #[gU xl xh] a1 a2):=hx;have HY:Hid (dF #[gU yl yh] b1 b2):=hy;clear hx hy;have HC:=hid hc;clear hc;go_enter Tryz.func29,Tryz.ntmps29;go_wp2_with fail;have B1:=ai (af (w.alloc (.cells #[nV xl,nV xh] 28)) (.cells #[nV yl,nV yh] 28)) (.cells #[uV 0,uV 0] 28);have B2:=af ((w.alloc (.cells #[nV xl,nV xh] 28)).alloc (.cells #[nV yl,nV yh] 28)) (.cells #[uV 0,uV 0] 28);have hW:Below w.heap.size w (((w.alloc (.cells #[nV xl,nV xh] 28)).alloc (.cells #[nV yl,nV yh] 28)).alloc (.cells #[uV 0,uV 0] 28)):=(aJ.alloc (by simp) _).alloc (by simp;omega) _;simp only[World.size_alloc] at B1 B2;generalize(((w.alloc (.cells #[nV xl,nV xh] 28)).alloc (.cells #[nV yl,nV yh] 28)).alloc (.cells #[uV 0,uV 0] 28))=W2 at*;refine (HX.out _).mono ?_;rintro e w1 ⟨ao,la,ca,bo,lb,cb,rfl,hla,hlb,hna,hnb,hb1⟩;have LA:=hid hla;have LB:=hid hlb;have NA:=hid (hna.al (.cells #[.bool a1.1,.slice ao la ca,iV a1.2.2,.bool a2.1,.slice bo lb cb,iV a2.2.2] 98));have NB:=hid (hnb.al (.cells #[.bool a1.1,.slice ao la ca,iV a1.2.2,.bool a2.1,.slice bo lb cb,iV a2.2.2] 98));have C1:=ai (aa B1 hb1) (.cells #[.bool a1.1,.slice ao la ca,iV a1.2.2,.bool a2.1,.slice bo lb cb,iV a2.2.2] 98);have C2:=ai (aa B2 hb1) (.cells #[.bool a1.1,.slice ao la ca,iV a1.2.2,.bool a2.1,.slice bo lb cb,iV a2.2.2] 98);have C0:=af w1 (.cells #[.bool a1.1,.slice ao la ca,iV a1.2.2,.bool a2.1,.slice bo lb cb,iV a2.2.2] 98);have hW1:=(hW.trans (hb1.mono hW.size)).alloc (Nat.le_trans hW.size hb1.size) (.cells #[.bool a1.1,.slice ao la ca,iV a1.2.2,.bool a2.1,.slice bo lb cb,iV a2.2.2] 98);obtain⟨y0,y1,-,-⟩:=aj (aa B1 hb1);have ly:=ag (aa B1 hb1);clear B1 B2 hW hb1 hla hlb hna hnb HX;go_wp2_with fail;clear y0 y1 ly;generalize hga:w1.heap.size=ga at*;generalize w1.alloc (.cells #[.bool a1.1,.slice ao la ca,iV a1.2.2,.bool a2.1,.slice bo lb cb,iV a2.2.2] 98)=W3 at*;refine (HY.out _).mono ?_;rintro e w2 ⟨co,lc,cc,do_,ld,cd,rfl,hlc,hld,hnc,hnd,hb2⟩;have LC:=hid hlc;have LD:=hid hld;have D1:=ai (aa C2 hb2) (.cells #[.bool b1.1,.slice co lc cc,iV b1.2.2,.bool b2.1,.slice do_ ld cd,iV b2.2.2] 98);have D0:=ai (aa C0 hb2) (.cells #[.bool b1.1,.slice co lc cc,iV b1.2.2,.bool b2.1,.slice do_ ld cd,iV b2.2.2] 98);have DB:=af w2 (.cells #[.bool b1.1,.slice co lc cc,iV b1.2.2,.bool b2.1,.slice do_ ld cd,iV b2.2.2] 98);have hW2:=(hW1.trans (hb2.mono hW1.size)).alloc (Nat.le_trans hW1.size hb2.size) (.cells #[.bool b1.1,.slice co lc cc,iV b1.2.2,.bool b2.1,.slice do_ ld cd,iV b2.2.2] 98);have hS2:=hb2.alloc hb2.size (.cells #[.bool b1.1,.slice co lc cc,iV b1.2.2,.bool b2.1,.slice do_ ld cd,iV b2.2.2] 98);have NA:=hid (NA.out.below hS2 ae);have NB:=hid (NB.out.below hS2 ae);have NC:=hid (hnc.al (.cells #[.bool b1.1,.slice co lc cc,iV b1.2.2,.bool b2.1,.slice do_ ld cd,iV b2.2.2] 98));have ND:=hid (hnd.al (.cells #[.bool b1.1,.slice co lc cc,iV b1.2.2,.bool b2.1,.slice do_ ld cd,iV b2.2.2] 98));clear C0 C1 C2 hW1 hb2 hS2 hlc hld hnc hnd HY;go_wp2_with fail;generalize hgb:w2.heap.size=gb at*;generalize w2.alloc (.cells #[.bool b1.1,.slice co lc cc,iV b1.2.2,.bool b2.1,.slice do_ ld cd,iV b2.2.2] 98)=W4 at*;refine (eM b2 _ do_ ld cd LD.out ND.out).mono ?_;rintro e w3 ⟨eo,le,ce,rfl,hle,hne,hb3⟩;have LE:=hid hle;have hS3:=hb3.alloc hb3.size (.cells #[.bool (aQ b2.1 b2.2.1),.slice eo le ce,iV b2.2.2] 92);have E1:=ai (aa D1 hb3) (.cells #[.bool (aQ b2.1 b2.2.1),.slice eo le ce,iV b2.2.2] 92);have E0:=ai (aa D0 hb3) (.cells #[.bool (aQ b2.1 b2.2.1),.slice eo le ce,iV b2.2.2] 92);have EB:=ai (aa DB hb3) (.cells #[.bool (aQ b2.1 b2.2.1),.slice eo le ce,iV b2.2.2] 92);have EL:=af w3 (.cells #[.bool (aQ b2.1 b2.2.1),.slice eo le ce,iV b2.2.2] 92);have hW3:=(hW2.trans (hb3.mono hW2.size)).alloc (Nat.le_trans hW2.size hb3.size) (.cells #[.bool (aQ b2.1 b2.2.1),.slice eo le ce,iV b2.2.2] 92);have NA:=hid (NA.out.below hS3 ae);have NB:=hid (NB.out.below hS3 ae);have NC:=hid (NC.out.below hS3 ae);have ND:=hid (ND.out.below hS3 ae);have NE:=hid (hne.al (.cells #[.bool (aQ b2.1 b2.2.1),.slice eo le ce,iV b2.2.2] 92));obtain⟨y0,y1,y2,-,-,-,-,-,-,-,-,-⟩:=bH (aa DB hb3);have ly:=ag (aa DB hb3);clear D0 D1 DB hW2 hb3 hS3 hle hne;go_wp2_with fail;clear y0 y1 y2 ly;generalize hgc:w3.heap.size=gc at*;generalize w3.alloc (.cells #[.bool (aQ b2.1 b2.2.1),.slice eo le ce,iV b2.2.2] 92)=W5 at*;refine (eM b1 _ co lc cc LC.out NC.out).mono ?_;rintro e w4 ⟨fo,lf,cf,rfl,hlf,hnf,hb4⟩;have LF:=hid hlf;have hS4:=hb4.alloc hb4.size (.cells #[.bool (aQ b1.1 b1.2.1),.slice fo lf cf,iV b1.2.2] 92);have NA:=hid (NA.out.below hS4 ae);have NB:=hid (NB.out.below hS4 ae);have NC:=hid (NC.out.below hS4 ae);have ND:=hid (ND.out.below hS4 ae);have NE:=hid (NE.out.below hS4 ae);have NF:=hid (hnf.al (.cells #[.bool (aQ b1.1 b1.2.1),.slice fo lf cf,iV b1.2.2] 92))
 have m1:Hid (ESt w (w4.alloc (.cells #[.bool (aQ b1.1 b1.2.1),.slice fo lf cf,iV b1.2.2] 92)) (w4.alloc (.cells #[.bool (aQ b1.1 b1.2.1),.slice fo lf cf,iV b1.2.2] 92)) (w.heap.size+1+1) ga gb gc w4.heap.size #[.bool a1.1,.slice ao la ca,iV a1.2.2,.bool a2.1,.slice bo lb cb,iV a2.2.2] #[.bool b1.1,.slice co lc cc,iV b1.2.2,.bool b2.1,.slice do_ ld cd,iV b2.2.2] #[.bool (aQ b2.1 b2.2.1),.slice eo le ce,iV b2.2.2] #[.bool (aQ b1.1 b1.2.1),.slice fo lf cf,iV b1.2.2]):=
  ⟨ai (aa E0 hb4) _,ai (aa EB hb4) _,ai (aa E1 hb4) _,ai (aa EL hb4) _,af w4 _,(hW3.trans (hb4.mono hW3.size)).alloc (Nat.le_trans hW3.size hb4.size) _,Below.refl _ _,ag (ai (aa E0 hb4) _),ag (ai (aa EB hb4) _),ag (ai (aa E1 hb4) _),ag (ai (aa EL hb4) _),ag (af w4 _),by omega⟩
 obtain⟨x0,x1,x2,x3,x4,x5,-,-,-,-,-,-⟩:=bH (aa E0 hb4);obtain⟨y0,y1,y2,y3,y4,y5,-,-,-,-,-,-⟩:=bH (aa EB hb4);have lx:=ag (aa E0 hb4);have ly:=ag (aa EB hb4);clear E0 E1 EB EL hW3 hb4 hS4 hlf hnf hga hgb hgc;rcases HC.out with⟨rfl,r1,r2,r3,rfl,h⟩|⟨rfl,r1,r2,r3,rfl,h⟩|⟨rfl,h⟩|⟨rfl,h⟩|⟨rfl,hs,rfl⟩|⟨⟨k0,k1,k2,k3,k4,k5,k6,k7⟩,r1,r2,r3,rfl,h⟩|⟨rfl,hs,q0,q1,r1,r2,r3,rfl,hq0,hq1,h⟩
 ·have HAR:=hid h;clear h HC;go_wp2_with fail;clear x0 x1 x2 x3 x4 x5 y0 y1 y2 y3 y4 y5 lx ly;generalize hgd:w4.heap.size=gd at*;generalize w4.alloc (.cells #[.bool (aQ b1.1 b1.2.1),.slice fo lf cf,iV b1.2.2] 92)=u at*;refine (eM a2 _ bo lb cb LB.out NB.out).mono ?_;rintro e v0 ⟨o0,l0,c0,rfl,hl0,hn0,hbk⟩;have m2:=m1.out.below hbk;have NA2:=NA.out.below hbk ae;obtain⟨x0,x1,x2,-,-,-,-,-,-,-,-,-⟩:=bH m2.k0;have lx:=ag m2.k0;have M2:=hid (m2.alloc (.cells #[.bool (aQ a2.1 a2.2.1),.slice o0 l0 c0,iV a2.2.2] 92));have NA3:=hid (NA2.al (.cells #[.bool (aQ a2.1 a2.2.1),.slice o0 l0 c0,iV a2.2.2] 92));have NX:=hid (hn0.al (.cells #[.bool (aQ a2.1 a2.2.1),.slice o0 l0 c0,iV a2.2.2] 92));have LX:=hid hl0;have B0:=af v0 (.cells #[.bool (aQ a2.1 a2.2.1),.slice o0 l0 c0,iV a2.2.2] 92);clear m2 NA2 hn0 hl0 hbk;go_wp2_with fail;clear x0 x1 x2 lx;generalize hg5:v0.heap.size=g5 at*;generalize v0.alloc (.cells #[.bool (aQ a2.1 a2.2.1),.slice o0 l0 c0,iV a2.2.2] 92)=V0 at*;refine (eM a1 _ ao la ca LA.out NA3.out).mono ?_;rintro e v1 ⟨o1,l1,c1,rfl,hl1,hn1,hbk⟩;have NX2:=NX.out.below hbk ae;have M3:=hid ((M2.out.below hbk).alloc (.cells #[.bool (aQ a1.1 a1.2.1),.slice o1 l1 c1,iV a1.2.2] 92));have NX3:=hid (NX2.al (.cells #[.bool (aQ a1.1 a1.2.1),.slice o1 l1 c1,iV a1.2.2] 92));have NY:=hid (hn1.al (.cells #[.bool (aQ a1.1 a1.2.1),.slice o1 l1 c1,iV a1.2.2] 92));have LY:=hid hl1;obtain⟨z0,z1,z2,-,-,-⟩:=aB (aa B0 hbk);have lz:=ag (aa B0 hbk);clear NX2 hn1 hl1 hbk B0 M2;go_wp2_with fail;refine (HAR.out _ o0 o1 l0 l1 c0 c1 LX.out LY.out NX3.out NY.out).mono ?_;rintro ev v2 ⟨rfl,hb9⟩;have m9:=hid (M3.out.below hb9);clear hb9 z0 z1 z2 lz M3;obtain⟨q0,q1,q2,q3⟩:=aj m9.out.k2;have lq:=ag m9.out.k2;go_wp2_with fail;obtain⟨p0,p1,-,-⟩:=aj (ai (aA (a:=nV r1) (b:=nV r2) m9.out.k2) (.cells #[nV r1,nV r2] 28));refine bodyPost_ret (v:= .tuple #[gU r1 r2,iV 0,.string ⟨#[]⟩]) (by simp[results,Tryz.results29,go_sem,p0,p1]) rfl ?_;exact⟨rfl,((m9.out.hb.setCell (by exact m9.out.l2) _).setCell (by exact m9.out.l2) _).alloc (by simp only[World.size_setCell];exact m9.out.hb.size) _⟩
 ·have HSP:=hid h;clear h HC;go_wp2_with fail;clear x0 x1 x2 x3 x4 x5 y0 y1 y2 y3 y4 y5 lx ly;have hgx:=af (w4.alloc (.cells #[.bool (aQ b1.1 b1.2.1),.slice fo lf cf,iV b1.2.2] 92)) (.cells #[.bool a1.1,.slice ao la ca,iV a1.2.2,.bool a2.1,.slice bo lb cb,iV a2.2.2,.bool b1.1,.slice co lc cc,iV b1.2.2,.bool b2.1,.slice do_ ld cd,iV b2.2.2] 92);simp only[World.size_alloc] at hgx;refine (HSP.out _ _ ao bo co do_ la lb lc ld ca cb cc cd hgx LA.out LB.out LC.out LD.out (NA.out.below ((Below.refl _ (w4.alloc (.cells #[.bool (aQ b1.1 b1.2.1),.slice fo lf cf,iV b1.2.2] 92))).alloc ae _) ae) (NB.out.below ((Below.refl _ (w4.alloc (.cells #[.bool (aQ b1.1 b1.2.1),.slice fo lf cf,iV b1.2.2] 92))).alloc ae _) ae) (NC.out.below ((Below.refl _ (w4.alloc (.cells #[.bool (aQ b1.1 b1.2.1),.slice fo lf cf,iV b1.2.2] 92))).alloc ae _) ae) (ND.out.below ((Below.refl _ (w4.alloc (.cells #[.bool (aQ b1.1 b1.2.1),.slice fo lf cf,iV b1.2.2] 92))).alloc ae _) ae)).mono ?_;rintro ev v2 ⟨rfl,hb9⟩;have m9:=hid ((m1.out.alloc _).below hb9);clear hb9 hgx;obtain⟨q0,q1,q2,q3⟩:=aj m9.out.k2;have lq:=ag m9.out.k2;go_wp2_with fail;obtain⟨p0,p1,-,-⟩:=aj (ai (aA (a:=nV r1) (b:=nV r2) m9.out.k2) (.cells #[nV r1,nV r2] 28));refine bodyPost_ret (v:= .tuple #[gU r1 r2,iV 0,.string ⟨#[]⟩]) (by simp[results,Tryz.results29,go_sem,p0,p1]) rfl ?_;exact⟨rfl,((m9.out.hb.setCell (by exact m9.out.l2) _).setCell (by exact m9.out.l2) _).alloc (by simp only[World.size_setCell];exact m9.out.hb.size) _⟩
 ·have HME:=hid h;clear h HC;go_wp2_with fail;clear x0 x1 x2 x3 x4 x5 y0 y1 y2 y3 y4 y5 lx ly;generalize hgd:w4.heap.size=gd at*;generalize w4.alloc (.cells #[.bool (aQ b1.1 b1.2.1),.slice fo lf cf,iV b1.2.2] 92)=u at*;refine (HME.out _ _ _ ⟨_,_,_,_,_,_,rfl,LA.out,LB.out,NA.out,NB.out⟩ ⟨_,_,_,_,_,_,rfl,LC.out,LD.out,NC.out,ND.out⟩).mono ?_;rintro ev v2 ⟨rfl,hb9⟩;have m9:=hid (m1.out.below hb9);clear hb9;obtain⟨q0,q1,q2,q3⟩:=aj m9.out.k2;go_wp2_with fail;obtain⟨p0,p1,-,-⟩:=aj (aA (a:=nV r.1) (b:=nV r.2.1) m9.out.k2);refine bodyPost_ret (v:= .tuple #[gU r.1 r.2.1,iV (r.2.2.1:Int),.string r.2.2.2]) (by simp[results,Tryz.results29,go_sem,p0,p1]) rfl ?_;exact⟨rfl,(m9.out.hb.setCell (by exact m9.out.l2) _).setCell (by exact m9.out.l2) _⟩
 ·have HME:=hid h;clear h HC;go_wp2_with fail;clear x0 x1 x2 x3 x4 x5 y0 y1 y2 y3 y4 y5 lx ly;generalize hgd:w4.heap.size=gd at*;generalize w4.alloc (.cells #[.bool (aQ b1.1 b1.2.1),.slice fo lf cf,iV b1.2.2] 92)=u at*;refine (HME.out _ _ _ ⟨_,_,_,_,_,_,rfl,LA.out,LB.out,NA.out,NB.out⟩ ⟨_,_,_,_,_,_,rfl,LC.out,LD.out,NC.out,ND.out⟩).mono ?_;rintro ev v2 ⟨rfl,hb9⟩;have m9:=hid (m1.out.below hb9);clear hb9;obtain⟨q0,q1,q2,q3⟩:=aj m9.out.k2;go_wp2_with fail;obtain⟨p0,p1,-,-⟩:=aj (aA (a:=nV r.1) (b:=nV r.2.1) m9.out.k2);refine bodyPost_ret (v:= .tuple #[gU r.1 r.2.1,iV (r.2.2.1:Int),.string r.2.2.2]) (by simp[results,Tryz.results29,go_sem,p0,p1]) rfl ?_;exact⟨rfl,(m9.out.hb.setCell (by exact m9.out.l2) _).setCell (by exact m9.out.l2) _⟩
 ·have HSG:=hid hs;clear hs HC;go_wp2_with fail;clear x0 x1 x2 x3 x4 x5 y0 y1 y2 y3 y4 y5 lx ly;generalize hgd:w4.heap.size=gd at*;generalize w4.alloc (.cells #[.bool (aQ b1.1 b1.2.1),.slice fo lf cf,iV b1.2.2] 92)=u at*;refine (fw _ a1.1 a1.2.1 a1.2.2 _ ⟨_,_,_,rfl,LA.out,NA.out⟩).mono ?_;rintro ev v2 ⟨rfl,hb9⟩;have m9:=hid (m1.out.below hb9);have hsg:=HSG.out;clear hb9;obtain⟨q0,q1,q2,q3⟩:=aj m9.out.k2;go_wp2_with fail;obtain⟨p0,p1,-,-⟩:=aj (aA (a:=uV 0) (b:=uV 0) m9.out.k2);refine bodyPost_ret (v:= .tuple #[.agg #[uV 0,uV 0],iV 5,.string ⟨#[115,113,114,116]⟩]) (by simp[results,Tryz.results29,go_sem,p0,p1]) rfl ?_;exact⟨rfl,(m9.out.hb.setCell (by exact m9.out.l2) _).setCell (by exact m9.out.l2) _⟩
 ·have HAR:=hid h;clear h HC;go_wp2_with fail;clear x0 x1 x2 x3 x4 x5 y0 y1 y2 y3 y4 y5 lx ly;generalize hgd:w4.heap.size=gd at*;generalize w4.alloc (.cells #[.bool (aQ b1.1 b1.2.1),.slice fo lf cf,iV b1.2.2] 92)=u at*;refine (HAR.out _ ao bo la lb ca cb LA.out LB.out NA.out NB.out).mono ?_;rintro ev v2 ⟨rfl,hb9⟩;have m9:=hid (m1.out.below hb9);clear hb9;obtain⟨q0,q1,q2,q3⟩:=aj m9.out.k2;have lq:=ag m9.out.k2;go_wp2_with fail;obtain⟨p0,p1,-,-⟩:=aj (ai (aA (a:=nV r1) (b:=nV r2) m9.out.k2) (.cells #[nV r1,nV r2] 28));refine bodyPost_ret (v:= .tuple #[gU r1 r2,iV 0,.string ⟨#[]⟩]) (by simp[results,Tryz.results29,go_sem,p0,p1]) rfl ?_;exact⟨rfl,((m9.out.hb.setCell (by exact m9.out.l2) _).setCell (by exact m9.out.l2) _).alloc (by simp only[World.size_setCell];exact m9.out.hb.size) _⟩
 ·have HSG:=hid hs;clear hs;have Hq0:=hid hq0;have Hq1:=hid hq1;have HAR:=hid h;have HNM:=hid (fun w=>j5 r1 r2 r3 ⟨#[115,113,114,116]⟩ w);clear h HC hq0 hq1;go_wp2_with fail;clear x0 x1 x2 x3 x4 x5 y0 y1 y2 y3 y4 y5 lx ly;generalize hgd:w4.heap.size=gd at*;generalize w4.alloc (.cells #[.bool (aQ b1.1 b1.2.1),.slice fo lf cf,iV b1.2.2] 92)=u at*;refine (fw _ a1.1 a1.2.1 a1.2.2 _ ⟨_,_,_,rfl,LA.out,NA.out⟩).mono ?_;rintro ev v9 ⟨rfl,hb9⟩;have NA:=hid (NA.out.below hb9 ae);have NB:=hid (NB.out.below hb9 ae);have m1:Hid (ESt w v9 v9 _ ga gb gc gd #[.bool a1.1,.slice ao la ca,iV a1.2.2,.bool a2.1,.slice bo lb cb,iV a2.2.2] #[.bool b1.1,.slice co lc cc,iV b1.2.2,.bool b2.1,.slice do_ ld cd,iV b2.2.2] #[.bool (aQ b2.1 b2.2.1),.slice eo le ce,iV b2.2.2] #[.bool (aQ b1.1 b1.2.1),.slice fo lf cf,iV b1.2.2]):=(fun m=>⟨m.k0,m.k1,m.k2,m.kc,m.kd,m.hb,Below.refl _ _,ag m.k0,ag m.k1,ag m.k2,ag m.kc,ag m.kd,m.l2⟩) (m1.out.below hb9);have hsg:=HSG.out;clear hb9 NC ND NE NF;go_wp2_with fail;clear hsg;generalize v9=u at*;have Q0:Hid (∀W,Below u.heap.size u W→ax 70 #[.agg #[.bool a1.1,.slice ao la ca,iV a1.2.2]] W fun ev w''=>∃vo vl vc,ev= .returned (.agg #[.bool q0.1,.slice vo vl vc,iV q0.2.2])∧vl=(digits q0.2.1).length∧aq w'' (.slice vo vl vc) q0.2.1∧Below W.heap.size W w''):=fun W hb=>Hq0.out W ao la ca LA.out (NA.out.below hb ae)
  have Q1:Hid (∀W,Below u.heap.size u W→ax 70 #[.agg #[.bool a2.1,.slice bo lb cb,iV a2.2.2]] W fun ev w''=>∃vo vl vc,ev= .returned (.agg #[.bool q1.1,.slice vo vl vc,iV q1.2.2])∧vl=(digits q1.2.1).length∧aq w'' (.slice vo vl vc) q1.2.1∧Below W.heap.size W w''):=fun W hb=>Hq1.out W bo lb cb LB.out (NB.out.below hb ae)
  go_cut [25,26] (fun s8 s9 wc=>∃g,s8= .pointer (some ⟨g,0,none⟩)∧s9=iV (r3:Int)∧Fin w wc (w.heap.size+1+1) g (nV r1) (nV r2))
  case first=>
   have iN:=hid m1.out.drew
   go_region_held3 (fun W=>W.cell? ⟨ga,0,none⟩=some (.bool a1.1)∧W.cell? ⟨ga,1,none⟩=some (.slice ao la ca)∧W.cell? ⟨ga,2,none⟩=some (.int .i64 a1.2.2)∧W.cell? ⟨ga,3,none⟩=some (.bool a2.1)∧W.cell? ⟨ga,4,none⟩=some (.slice bo lb cb)∧W.cell? ⟨ga,5,none⟩=some (.int .i64 a2.2.2)∧W.cell? ⟨gb,0,none⟩=some (.bool b1.1)∧W.cell? ⟨gb,1,none⟩=some (.slice co lc cc)∧W.cell? ⟨gb,2,none⟩=some (.int .i64 b1.2.2)∧W.cell? ⟨gb,3,none⟩=some (.bool b2.1)∧W.cell? ⟨gb,4,none⟩=some (.slice do_ ld cd)∧W.cell? ⟨gb,5,none⟩=some (.int .i64 b2.2.2)) (first|with_reducible exact iN.out.cells|with_reducible exact(m1.out.alloc _).drew.cells|with_reducible exact(iN.out.alloc _).cells|with_reducible exact((iN.out.alloc _).alloc _).cells|with_reducible exact(iN.out.set2 zf.out _ _).cells)
    (first
      |(go_at_call 70;with_reducible (refine (Q0.out _ ?_).mono ?_);(with_reducible exact iN.out.hu);rintro e v0 ⟨o0,l0,c0,rfl,hl,hn,hbk⟩
        have E0:=hid hl;have N0:=hid hn;have iN:=hid (iN.out.below hbk);clear hl hn hbk)
      |(go_at_call 70;with_reducible (refine (Q0.out _ ?_).mono ?_);(with_reducible exact(m1.out.alloc _).drew.hu);rintro e v0 ⟨o0,l0,c0,rfl,hl,hn,hbk⟩
        have E0:=hid hl;have N0:=hid hn;have zf:=hid ((bD.new m1.out.sz).drew.below hbk);have iN:=hid ((m1.out.alloc _).drew.below hbk);clear hl hn hbk)
      |(go_at_call 70;with_reducible (refine (Q1.out _ ?_).mono ?_);(with_reducible exact iN.out.hu);rintro e v1 ⟨o1,l1,c1,rfl,hl,hn,hbk⟩
        have E1:=hid hl;have N1:=hid hn;have N0:=hid (N0.out.below hbk ae)
        try(have zf:Hid (bD u.heap.size v1 _):=zf.out.below hbk)
        have iN:=hid (iN.out.below hbk);clear hl hn hbk)
      |(go_at_call 70;with_reducible (refine (Q1.out _ ?_).mono ?_);(with_reducible exact(iN.out.alloc _).hu);rintro e v1 ⟨o1,l1,c1,rfl,hl,hn,hbk⟩
        have E1:=hid hl;have N1:=hid hn;have N0:Hid (aq v1 (.slice o0 l0 c0) _):=(N0.out.below aJ ae).below hbk ae;have zf:=hid ((bD.new iN.out.sz).below hbk);have iN:=hid ((iN.out.alloc _).below hbk);clear hl hn hbk)
      |(go_at_call 62;with_reducible (refine (HAR.out _ o0 o1 l0 l1 c0 c1 E0.out E1.out N0.out N1.out).mono ?_);rintro e v2 ⟨rfl,hbk⟩
        try(have zf:Hid (bD u.heap.size v2 _):=zf.out.below hbk;obtain⟨zc0,zc1,zc2,zc3⟩:=aj zf.out.1)
        have iN:=hid (iN.out.below hbk);clear hbk)
      |(go_at_call 62;with_reducible (refine (HAR.out _ o0 o1 l0 l1 c0 c1 E0.out E1.out (N0.out.below ((Below.refl _ v1).alloc ae _) ae) (N1.out.below ((Below.refl _ v1).alloc ae _) ae)).mono ?_);rintro e v2 ⟨rfl,hbk⟩
        have zf:=hid ((bD.new iN.out.sz).below hbk);obtain⟨zc0,zc1,zc2,zc3⟩:=aj zf.out.1;have iN:=hid ((iN.out.alloc _).below hbk);clear hbk))
   all_goals(go_wp2_with fail;go_meet;refine⟨_,rfl,rfl,?_⟩)
   all_goals first|with_reducible exact iN.out.finSet zf.out _ _|with_reducible exact iN.out.finNew _ _
  case rest=>
   obtain⟨g,rfl,rfl,F⟩:=hcut;have HF:Hid (Fin w wc (w.heap.size+1+1) g (nV r1) (nV r2)):=F;obtain⟨p0,p1,-,-⟩:=aj F.c;clear F;go_wp2_with fail;refine (HNM.out _).mono ?_;rintro ev w9 ⟨rfl,hb9⟩;have HK:Hid (w9.heap[(w.heap.size+1+1)]?=_):=aa HF.out.k2 hb9;have HB:=hid (HF.out.hb.trans (hb9.mono HF.out.hb.size));clear hb9 p0 p1;obtain⟨q0,q1,q2,q3⟩:=aj HK.out;go_wp2_with fail;obtain⟨p0,p1,-,-⟩:=aj (aA (a:=uV ((aO (r1,r2,r3) ⟨#[115,113,114,116]⟩).1:Int)) (b:=uV ((aO (r1,r2,r3) ⟨#[115,113,114,116]⟩).2.1:Int)) HK.out);refine bodyPost_ret (v:= .tuple #[.agg #[uV ((aO (r1,r2,r3) ⟨#[115,113,114,116]⟩).1:Int),uV ((aO (r1,r2,r3) ⟨#[115,113,114,116]⟩).2.1:Int)],iV ((aO (r1,r2,r3) ⟨#[115,113,114,116]⟩).2.2.1:Int),.string (aO (r1,r2,r3) ⟨#[115,113,114,116]⟩).2.2.2]) (by simp[results,Tryz.results29,go_sem,p0,p1]) rfl ?_;exact⟨rfl,(HB.out.setCell (by exact HF.out.l2) _).setCell (by exact HF.out.l2) _⟩
theorem qu (xl xh yl yh:Nat) (a1 a2 b1 b2:ap) (k:Int) (r:Nat×Nat×Nat×ByteArray) (w:World) (hx:dF #[gU xl xh] a1 a2) (hy:dF #[gU yl yh] b1 b2) (hc:(k=3∧∃q0 q1 r1 r2 r3,r=aO (r1,r2,r3) ⟨#[43]⟩∧SmH 65 a1 b1 q0∧SmH 65 a2 b2 q1∧ArH q0 q1 r1 r2 r3)∨
  (k=4∧∃q0 q1 r1 r2 r3,r=aO (r1,r2,r3) ⟨#[45]⟩∧SmH 65 a1 (aQ b2.1 b2.2.1,b2.2.1,b2.2.2) q0∧SmH 65 a2 (aQ b1.1 b1.2.1,b1.2.1,b1.2.2) q1∧ArH q0 q1 r1 r2 r3)∨
  (k=5∧∃q0 q1 q2 q3 r1 r2 r3,r=aO (r1,r2,r3) ⟨#[42]⟩∧SmH 67 a1 b1 q0∧SmH 67 a1 b2 q1∧SmH 67 a2 b1 q2∧SmH 67 a2 b2 q3∧SpH q0 q1 q2 q3 r1 r2 r3)):
  aw 29 #[iV k,gU xl xh,gU yl yh] w (.tuple #[gU r.1 r.2.1,iV (r.2.2.1:Int),.string r.2.2.2]):=by
 have HX:Hid (dF #[gU xl xh] a1 a2):=hx;have HY:Hid (dF #[gU yl yh] b1 b2):=hy;clear hx hy;have HC:=hid hc;clear hc;go_enter Tryz.func29,Tryz.ntmps29;go_wp2_with fail;have B1:=ai (af (w.alloc (.cells #[nV xl,nV xh] 28)) (.cells #[nV yl,nV yh] 28)) (.cells #[uV 0,uV 0] 28);have B2:=af ((w.alloc (.cells #[nV xl,nV xh] 28)).alloc (.cells #[nV yl,nV yh] 28)) (.cells #[uV 0,uV 0] 28);have hW:Below w.heap.size w (((w.alloc (.cells #[nV xl,nV xh] 28)).alloc (.cells #[nV yl,nV yh] 28)).alloc (.cells #[uV 0,uV 0] 28)):=(aJ.alloc (by simp) _).alloc (by simp;omega) _;simp only[World.size_alloc] at B1 B2;generalize(((w.alloc (.cells #[nV xl,nV xh] 28)).alloc (.cells #[nV yl,nV yh] 28)).alloc (.cells #[uV 0,uV 0] 28))=W2 at*;refine (HX.out _).mono ?_;rintro e w1 ⟨ao,la,ca,bo,lb,cb,rfl,hla,hlb,hna,hnb,hb1⟩;have LA:=hid hla;have LB:=hid hlb;have NA:=hid (hna.al (.cells #[.bool a1.1,.slice ao la ca,iV a1.2.2,.bool a2.1,.slice bo lb cb,iV a2.2.2] 98));have NB:=hid (hnb.al (.cells #[.bool a1.1,.slice ao la ca,iV a1.2.2,.bool a2.1,.slice bo lb cb,iV a2.2.2] 98));have C1:=ai (aa B1 hb1) (.cells #[.bool a1.1,.slice ao la ca,iV a1.2.2,.bool a2.1,.slice bo lb cb,iV a2.2.2] 98);have C2:=ai (aa B2 hb1) (.cells #[.bool a1.1,.slice ao la ca,iV a1.2.2,.bool a2.1,.slice bo lb cb,iV a2.2.2] 98);have C0:=af w1 (.cells #[.bool a1.1,.slice ao la ca,iV a1.2.2,.bool a2.1,.slice bo lb cb,iV a2.2.2] 98);have hW1:=(hW.trans (hb1.mono hW.size)).alloc (Nat.le_trans hW.size hb1.size) (.cells #[.bool a1.1,.slice ao la ca,iV a1.2.2,.bool a2.1,.slice bo lb cb,iV a2.2.2] 98);obtain⟨y0,y1,-,-⟩:=aj (aa B1 hb1);have ly:=ag (aa B1 hb1);clear B1 B2 hW hb1 hla hlb hna hnb HX;go_wp2_with fail;clear y0 y1 ly;generalize hga:w1.heap.size=ga at*;generalize w1.alloc (.cells #[.bool a1.1,.slice ao la ca,iV a1.2.2,.bool a2.1,.slice bo lb cb,iV a2.2.2] 98)=W3 at*;refine (HY.out _).mono ?_;rintro e w2 ⟨co,lc,cc,do_,ld,cd,rfl,hlc,hld,hnc,hnd,hb2⟩;have LC:=hid hlc;have LD:=hid hld;have D1:=ai (aa C2 hb2) (.cells #[.bool b1.1,.slice co lc cc,iV b1.2.2,.bool b2.1,.slice do_ ld cd,iV b2.2.2] 98);have D0:=ai (aa C0 hb2) (.cells #[.bool b1.1,.slice co lc cc,iV b1.2.2,.bool b2.1,.slice do_ ld cd,iV b2.2.2] 98);have DB:=af w2 (.cells #[.bool b1.1,.slice co lc cc,iV b1.2.2,.bool b2.1,.slice do_ ld cd,iV b2.2.2] 98);have hW2:=(hW1.trans (hb2.mono hW1.size)).alloc (Nat.le_trans hW1.size hb2.size) (.cells #[.bool b1.1,.slice co lc cc,iV b1.2.2,.bool b2.1,.slice do_ ld cd,iV b2.2.2] 98);have hS2:=hb2.alloc hb2.size (.cells #[.bool b1.1,.slice co lc cc,iV b1.2.2,.bool b2.1,.slice do_ ld cd,iV b2.2.2] 98);have NA:=hid (NA.out.below hS2 ae);have NB:=hid (NB.out.below hS2 ae);have NC:=hid (hnc.al (.cells #[.bool b1.1,.slice co lc cc,iV b1.2.2,.bool b2.1,.slice do_ ld cd,iV b2.2.2] 98));have ND:=hid (hnd.al (.cells #[.bool b1.1,.slice co lc cc,iV b1.2.2,.bool b2.1,.slice do_ ld cd,iV b2.2.2] 98));clear C0 C1 C2 hW1 hb2 hS2 hlc hld hnc hnd HY;go_wp2_with fail;generalize hgb:w2.heap.size=gb at*;generalize w2.alloc (.cells #[.bool b1.1,.slice co lc cc,iV b1.2.2,.bool b2.1,.slice do_ ld cd,iV b2.2.2] 98)=W4 at*;refine (eM b2 _ do_ ld cd LD.out ND.out).mono ?_;rintro e w3 ⟨eo,le,ce,rfl,hle,hne,hb3⟩;have LE:=hid hle;have hS3:=hb3.alloc hb3.size (.cells #[.bool (aQ b2.1 b2.2.1),.slice eo le ce,iV b2.2.2] 92);have E1:=ai (aa D1 hb3) (.cells #[.bool (aQ b2.1 b2.2.1),.slice eo le ce,iV b2.2.2] 92);have E0:=ai (aa D0 hb3) (.cells #[.bool (aQ b2.1 b2.2.1),.slice eo le ce,iV b2.2.2] 92);have EB:=ai (aa DB hb3) (.cells #[.bool (aQ b2.1 b2.2.1),.slice eo le ce,iV b2.2.2] 92);have EL:=af w3 (.cells #[.bool (aQ b2.1 b2.2.1),.slice eo le ce,iV b2.2.2] 92);have hW3:=(hW2.trans (hb3.mono hW2.size)).alloc (Nat.le_trans hW2.size hb3.size) (.cells #[.bool (aQ b2.1 b2.2.1),.slice eo le ce,iV b2.2.2] 92);have NA:=hid (NA.out.below hS3 ae);have NB:=hid (NB.out.below hS3 ae);have NC:=hid (NC.out.below hS3 ae);have ND:=hid (ND.out.below hS3 ae);have NE:=hid (hne.al (.cells #[.bool (aQ b2.1 b2.2.1),.slice eo le ce,iV b2.2.2] 92));obtain⟨y0,y1,y2,-,-,-,-,-,-,-,-,-⟩:=bH (aa DB hb3);have ly:=ag (aa DB hb3);clear D0 D1 DB hW2 hb3 hS3 hle hne;go_wp2_with fail;clear y0 y1 y2 ly;generalize hgc:w3.heap.size=gc at*;generalize w3.alloc (.cells #[.bool (aQ b2.1 b2.2.1),.slice eo le ce,iV b2.2.2] 92)=W5 at*;refine (eM b1 _ co lc cc LC.out NC.out).mono ?_;rintro e w4 ⟨fo,lf,cf,rfl,hlf,hnf,hb4⟩;have LF:=hid hlf;have hS4:=hb4.alloc hb4.size (.cells #[.bool (aQ b1.1 b1.2.1),.slice fo lf cf,iV b1.2.2] 92);have NA:=hid (NA.out.below hS4 ae);have NB:=hid (NB.out.below hS4 ae);have NC:=hid (NC.out.below hS4 ae);have ND:=hid (ND.out.below hS4 ae);have NE:=hid (NE.out.below hS4 ae);have NF:=hid (hnf.al (.cells #[.bool (aQ b1.1 b1.2.1),.slice fo lf cf,iV b1.2.2] 92))
 have m1:Hid (ESt w (w4.alloc (.cells #[.bool (aQ b1.1 b1.2.1),.slice fo lf cf,iV b1.2.2] 92)) (w4.alloc (.cells #[.bool (aQ b1.1 b1.2.1),.slice fo lf cf,iV b1.2.2] 92)) (w.heap.size+1+1) ga gb gc w4.heap.size #[.bool a1.1,.slice ao la ca,iV a1.2.2,.bool a2.1,.slice bo lb cb,iV a2.2.2] #[.bool b1.1,.slice co lc cc,iV b1.2.2,.bool b2.1,.slice do_ ld cd,iV b2.2.2] #[.bool (aQ b2.1 b2.2.1),.slice eo le ce,iV b2.2.2] #[.bool (aQ b1.1 b1.2.1),.slice fo lf cf,iV b1.2.2]):=
  ⟨ai (aa E0 hb4) _,ai (aa EB hb4) _,ai (aa E1 hb4) _,ai (aa EL hb4) _,af w4 _,(hW3.trans (hb4.mono hW3.size)).alloc (Nat.le_trans hW3.size hb4.size) _,Below.refl _ _,ag (ai (aa E0 hb4) _),ag (ai (aa EB hb4) _),ag (ai (aa E1 hb4) _),ag (ai (aa EL hb4) _),ag (af w4 _),by omega⟩
 obtain⟨x0,x1,x2,x3,x4,x5,-,-,-,-,-,-⟩:=bH (aa E0 hb4);obtain⟨y0,y1,y2,y3,y4,y5,-,-,-,-,-,-⟩:=bH (aa EB hb4);have lx:=ag (aa E0 hb4);have ly:=ag (aa EB hb4);clear E0 E1 EB EL hW3 hb4 hS4 hlf hnf hga hgb hgc;rcases HC.out with⟨rfl,q0,q1,r1,r2,r3,rfl,hq0,hq1,h⟩|⟨rfl,q0,q1,r1,r2,r3,rfl,hq0,hq1,h⟩|⟨rfl,q0,q1,q2,q3,r1,r2,r3,rfl,hq0,hq1,hq2,hq3,h⟩
 ·have Hq0:=hid hq0;have Hq1:=hid hq1;have HAR:=hid h;have HNM:=hid (fun w=>j5 r1 r2 r3 ⟨#[43]⟩ w);clear h HC hq0 hq1;clear x0 x1 x2 x3 x4 x5 y0 y1 y2 y3 y4 y5 lx ly;go_wp2_with fail;generalize hgd:w4.heap.size=gd at*;generalize w4.alloc (.cells #[.bool (aQ b1.1 b1.2.1),.slice fo lf cf,iV b1.2.2] 92)=u at*;have Q0:Hid (∀W,Below u.heap.size u W→ax 65 #[.agg #[.bool a1.1,.slice ao la ca,iV a1.2.2],.agg #[.bool b1.1,.slice co lc cc,iV b1.2.2]] W fun ev w''=>∃vo vl vc,ev= .returned (.agg #[.bool q0.1,.slice vo vl vc,iV q0.2.2])∧vl=(digits q0.2.1).length∧aq w'' (.slice vo vl vc) q0.2.1∧Below W.heap.size W w''):=fun W hb=>Hq0.out W ao co la ca lc cc LA.out (NA.out.below hb ae) LC.out (NC.out.below hb ae)
  have Q1:Hid (∀W,Below u.heap.size u W→ax 65 #[.agg #[.bool a2.1,.slice bo lb cb,iV a2.2.2],.agg #[.bool b2.1,.slice do_ ld cd,iV b2.2.2]] W fun ev w''=>∃vo vl vc,ev= .returned (.agg #[.bool q1.1,.slice vo vl vc,iV q1.2.2])∧vl=(digits q1.2.1).length∧aq w'' (.slice vo vl vc) q1.2.1∧Below W.heap.size W w''):=fun W hb=>Hq1.out W bo do_ lb cb ld cd LB.out (NB.out.below hb ae) LD.out (ND.out.below hb ae)
  go_cut [19,20] (fun s8 s9 wc=>∃g,s8= .pointer (some ⟨g,0,none⟩)∧s9=iV (r3:Int)∧Fin w wc (w.heap.size+1+1) g (nV r1) (nV r2))
  case first=>
   have iN:=hid m1.out.drew
   go_region_held3 (fun W=>W.cell? ⟨ga,0,none⟩=some (.bool a1.1)∧W.cell? ⟨ga,1,none⟩=some (.slice ao la ca)∧W.cell? ⟨ga,2,none⟩=some (.int .i64 a1.2.2)∧W.cell? ⟨ga,3,none⟩=some (.bool a2.1)∧W.cell? ⟨ga,4,none⟩=some (.slice bo lb cb)∧W.cell? ⟨ga,5,none⟩=some (.int .i64 a2.2.2)∧W.cell? ⟨gb,0,none⟩=some (.bool b1.1)∧W.cell? ⟨gb,1,none⟩=some (.slice co lc cc)∧W.cell? ⟨gb,2,none⟩=some (.int .i64 b1.2.2)∧W.cell? ⟨gb,3,none⟩=some (.bool b2.1)∧W.cell? ⟨gb,4,none⟩=some (.slice do_ ld cd)∧W.cell? ⟨gb,5,none⟩=some (.int .i64 b2.2.2)) (first|with_reducible exact iN.out.cells|with_reducible exact(m1.out.alloc _).drew.cells|with_reducible exact(iN.out.alloc _).cells|with_reducible exact((iN.out.alloc _).alloc _).cells|with_reducible exact(iN.out.set2 zf.out _ _).cells)
    (first
      |(go_at_call 65;with_reducible (refine (Q0.out _ ?_).mono ?_);(with_reducible exact iN.out.hu);rintro e v0 ⟨o0,l0,c0,rfl,hl,hn,hbk⟩
        have E0:=hid hl;have N0:=hid hn;have iN:=hid (iN.out.below hbk);clear hl hn hbk)
      |(go_at_call 65;with_reducible (refine (Q0.out _ ?_).mono ?_);(with_reducible exact(m1.out.alloc _).drew.hu);rintro e v0 ⟨o0,l0,c0,rfl,hl,hn,hbk⟩
        have E0:=hid hl;have N0:=hid hn;have zf:=hid ((bD.new m1.out.sz).drew.below hbk);have iN:=hid ((m1.out.alloc _).drew.below hbk);clear hl hn hbk)
      |(go_at_call 65;with_reducible (refine (Q1.out _ ?_).mono ?_);(with_reducible exact iN.out.hu);rintro e v1 ⟨o1,l1,c1,rfl,hl,hn,hbk⟩
        have E1:=hid hl;have N1:=hid hn;have N0:=hid (N0.out.below hbk ae)
        try(have zf:Hid (bD u.heap.size v1 _):=zf.out.below hbk)
        have iN:=hid (iN.out.below hbk);clear hl hn hbk)
      |(go_at_call 65;with_reducible (refine (Q1.out _ ?_).mono ?_);(with_reducible exact(iN.out.alloc _).hu);rintro e v1 ⟨o1,l1,c1,rfl,hl,hn,hbk⟩
        have E1:=hid hl;have N1:=hid hn;have N0:Hid (aq v1 (.slice o0 l0 c0) _):=(N0.out.below aJ ae).below hbk ae;have zf:=hid ((bD.new iN.out.sz).below hbk);have iN:=hid ((iN.out.alloc _).below hbk);clear hl hn hbk)
      |(go_at_call 62;with_reducible (refine (HAR.out _ o0 o1 l0 l1 c0 c1 E0.out E1.out N0.out N1.out).mono ?_);rintro e v2 ⟨rfl,hbk⟩
        try(have zf:Hid (bD u.heap.size v2 _):=zf.out.below hbk;obtain⟨zc0,zc1,zc2,zc3⟩:=aj zf.out.1)
        have iN:=hid (iN.out.below hbk);clear hbk)
      |(go_at_call 62;with_reducible (refine (HAR.out _ o0 o1 l0 l1 c0 c1 E0.out E1.out (N0.out.below ((Below.refl _ v1).alloc ae _) ae) (N1.out.below ((Below.refl _ v1).alloc ae _) ae)).mono ?_);rintro e v2 ⟨rfl,hbk⟩
        have zf:=hid ((bD.new iN.out.sz).below hbk);obtain⟨zc0,zc1,zc2,zc3⟩:=aj zf.out.1;have iN:=hid ((iN.out.alloc _).below hbk);clear hbk))
   all_goals(go_wp2_with fail;go_meet;refine⟨_,rfl,rfl,?_⟩)
   all_goals first|with_reducible exact iN.out.finSet zf.out _ _|with_reducible exact iN.out.finNew _ _
  case rest=>
   obtain⟨g,rfl,rfl,F⟩:=hcut;have HF:Hid (Fin w wc (w.heap.size+1+1) g (nV r1) (nV r2)):=F;obtain⟨p0,p1,-,-⟩:=aj F.c;clear F;go_wp2_with fail;refine (HNM.out _).mono ?_;rintro ev w9 ⟨rfl,hb9⟩;have HK:Hid (w9.heap[(w.heap.size+1+1)]?=_):=aa HF.out.k2 hb9;have HB:=hid (HF.out.hb.trans (hb9.mono HF.out.hb.size));clear hb9 p0 p1;obtain⟨q0,q1,q2,q3⟩:=aj HK.out;go_wp2_with fail;obtain⟨p0,p1,-,-⟩:=aj (aA (a:=uV ((aO (r1,r2,r3) ⟨#[43]⟩).1:Int)) (b:=uV ((aO (r1,r2,r3) ⟨#[43]⟩).2.1:Int)) HK.out);refine bodyPost_ret (v:= .tuple #[.agg #[uV ((aO (r1,r2,r3) ⟨#[43]⟩).1:Int),uV ((aO (r1,r2,r3) ⟨#[43]⟩).2.1:Int)],iV ((aO (r1,r2,r3) ⟨#[43]⟩).2.2.1:Int),.string (aO (r1,r2,r3) ⟨#[43]⟩).2.2.2]) (by simp[results,Tryz.results29,go_sem,p0,p1]) rfl ?_;exact⟨rfl,(HB.out.setCell (by exact HF.out.l2) _).setCell (by exact HF.out.l2) _⟩
 ·have Hq0:=hid hq0;have Hq1:=hid hq1;have HAR:=hid h;have HNM:=hid (fun w=>j5 r1 r2 r3 ⟨#[45]⟩ w);clear h HC hq0 hq1;clear x0 x1 x2 x3 x4 x5 y0 y1 y2 y3 y4 y5 lx ly;go_wp2_with fail;generalize hgd:w4.heap.size=gd at*;generalize w4.alloc (.cells #[.bool (aQ b1.1 b1.2.1),.slice fo lf cf,iV b1.2.2] 92)=u at*;have Q0:Hid (∀W,Below u.heap.size u W→ax 65 #[.agg #[.bool a1.1,.slice ao la ca,iV a1.2.2],.agg #[.bool (aQ b2.1 b2.2.1),.slice eo le ce,iV b2.2.2]] W fun ev w''=>∃vo vl vc,ev= .returned (.agg #[.bool q0.1,.slice vo vl vc,iV q0.2.2])∧vl=(digits q0.2.1).length∧aq w'' (.slice vo vl vc) q0.2.1∧Below W.heap.size W w''):=fun W hb=>Hq0.out W ao eo la ca le ce LA.out (NA.out.below hb ae) LE.out (NE.out.below hb ae)
  have Q1:Hid (∀W,Below u.heap.size u W→ax 65 #[.agg #[.bool a2.1,.slice bo lb cb,iV a2.2.2],.agg #[.bool (aQ b1.1 b1.2.1),.slice fo lf cf,iV b1.2.2]] W fun ev w''=>∃vo vl vc,ev= .returned (.agg #[.bool q1.1,.slice vo vl vc,iV q1.2.2])∧vl=(digits q1.2.1).length∧aq w'' (.slice vo vl vc) q1.2.1∧Below W.heap.size W w''):=fun W hb=>Hq1.out W bo fo lb cb lf cf LB.out (NB.out.below hb ae) LF.out (NF.out.below hb ae)
  go_cut [21,22] (fun s8 s9 wc=>∃g,s8= .pointer (some ⟨g,0,none⟩)∧s9=iV (r3:Int)∧Fin w wc (w.heap.size+1+1) g (nV r1) (nV r2))
  case first=>
   have iN:=hid m1.out.drew
   go_region_held3 (fun W=>W.cell? ⟨ga,0,none⟩=some (.bool a1.1)∧W.cell? ⟨ga,1,none⟩=some (.slice ao la ca)∧W.cell? ⟨ga,2,none⟩=some (.int .i64 a1.2.2)∧W.cell? ⟨ga,3,none⟩=some (.bool a2.1)∧W.cell? ⟨ga,4,none⟩=some (.slice bo lb cb)∧W.cell? ⟨ga,5,none⟩=some (.int .i64 a2.2.2)∧W.cell? ⟨gc,0,none⟩=some (.bool (aQ b2.1 b2.2.1))∧W.cell? ⟨gc,1,none⟩=some (.slice eo le ce)∧W.cell? ⟨gc,2,none⟩=some (.int .i64 b2.2.2)∧W.cell? ⟨gd,0,none⟩=some (.bool (aQ b1.1 b1.2.1))∧W.cell? ⟨gd,1,none⟩=some (.slice fo lf cf)∧W.cell? ⟨gd,2,none⟩=some (.int .i64 b1.2.2)) (first|with_reducible exact iN.out.cells4|with_reducible exact(m1.out.alloc _).drew.cells4|with_reducible exact(iN.out.alloc _).cells4|with_reducible exact((iN.out.alloc _).alloc _).cells4|with_reducible exact(iN.out.set2 zf.out _ _).cells4)
    (first
      |(go_at_call 65;with_reducible (refine (Q0.out _ ?_).mono ?_);(with_reducible exact iN.out.hu);rintro e v0 ⟨o0,l0,c0,rfl,hl,hn,hbk⟩
        have E0:=hid hl;have N0:=hid hn;have iN:=hid (iN.out.below hbk);clear hl hn hbk)
      |(go_at_call 65;with_reducible (refine (Q0.out _ ?_).mono ?_);(with_reducible exact(m1.out.alloc _).drew.hu);rintro e v0 ⟨o0,l0,c0,rfl,hl,hn,hbk⟩
        have E0:=hid hl;have N0:=hid hn;have zf:=hid ((bD.new m1.out.sz).drew.below hbk);have iN:=hid ((m1.out.alloc _).drew.below hbk);clear hl hn hbk)
      |(go_at_call 65;with_reducible (refine (Q1.out _ ?_).mono ?_);(with_reducible exact iN.out.hu);rintro e v1 ⟨o1,l1,c1,rfl,hl,hn,hbk⟩
        have E1:=hid hl;have N1:=hid hn;have N0:=hid (N0.out.below hbk ae)
        try(have zf:Hid (bD u.heap.size v1 _):=zf.out.below hbk)
        have iN:=hid (iN.out.below hbk);clear hl hn hbk)
      |(go_at_call 65;with_reducible (refine (Q1.out _ ?_).mono ?_);(with_reducible exact(iN.out.alloc _).hu);rintro e v1 ⟨o1,l1,c1,rfl,hl,hn,hbk⟩
        have E1:=hid hl;have N1:=hid hn;have N0:Hid (aq v1 (.slice o0 l0 c0) _):=(N0.out.below aJ ae).below hbk ae;have zf:=hid ((bD.new iN.out.sz).below hbk);have iN:=hid ((iN.out.alloc _).below hbk);clear hl hn hbk)
      |(go_at_call 62;with_reducible (refine (HAR.out _ o0 o1 l0 l1 c0 c1 E0.out E1.out N0.out N1.out).mono ?_);rintro e v2 ⟨rfl,hbk⟩
        try(have zf:Hid (bD u.heap.size v2 _):=zf.out.below hbk;obtain⟨zc0,zc1,zc2,zc3⟩:=aj zf.out.1)
        have iN:=hid (iN.out.below hbk);clear hbk)
      |(go_at_call 62;with_reducible (refine (HAR.out _ o0 o1 l0 l1 c0 c1 E0.out E1.out (N0.out.below ((Below.refl _ v1).alloc ae _) ae) (N1.out.below ((Below.refl _ v1).alloc ae _) ae)).mono ?_);rintro e v2 ⟨rfl,hbk⟩
        have zf:=hid ((bD.new iN.out.sz).below hbk);obtain⟨zc0,zc1,zc2,zc3⟩:=aj zf.out.1;have iN:=hid ((iN.out.alloc _).below hbk);clear hbk))
   all_goals(go_wp2_with fail;go_meet;refine⟨_,rfl,rfl,?_⟩)
   all_goals first|with_reducible exact iN.out.finSet zf.out _ _|with_reducible exact iN.out.finNew _ _
  case rest=>
   obtain⟨g,rfl,rfl,F⟩:=hcut;have HF:Hid (Fin w wc (w.heap.size+1+1) g (nV r1) (nV r2)):=F;obtain⟨p0,p1,-,-⟩:=aj F.c;clear F;go_wp2_with fail;refine (HNM.out _).mono ?_;rintro ev w9 ⟨rfl,hb9⟩;have HK:Hid (w9.heap[(w.heap.size+1+1)]?=_):=aa HF.out.k2 hb9;have HB:=hid (HF.out.hb.trans (hb9.mono HF.out.hb.size));clear hb9 p0 p1;obtain⟨q0,q1,q2,q3⟩:=aj HK.out;go_wp2_with fail;obtain⟨p0,p1,-,-⟩:=aj (aA (a:=uV ((aO (r1,r2,r3) ⟨#[45]⟩).1:Int)) (b:=uV ((aO (r1,r2,r3) ⟨#[45]⟩).2.1:Int)) HK.out);refine bodyPost_ret (v:= .tuple #[.agg #[uV ((aO (r1,r2,r3) ⟨#[45]⟩).1:Int),uV ((aO (r1,r2,r3) ⟨#[45]⟩).2.1:Int)],iV ((aO (r1,r2,r3) ⟨#[45]⟩).2.2.1:Int),.string (aO (r1,r2,r3) ⟨#[45]⟩).2.2.2]) (by simp[results,Tryz.results29,go_sem,p0,p1]) rfl ?_;exact⟨rfl,(HB.out.setCell (by exact HF.out.l2) _).setCell (by exact HF.out.l2) _⟩
 ·have Hq0:=hid hq0;have Hq1:=hid hq1;have Hq2:=hid hq2;have Hq3:=hid hq3;have HSP:=hid h;have HNM:=hid (fun w=>j5 r1 r2 r3 ⟨#[42]⟩ w);clear h HC hq0 hq1 hq2 hq3;clear x0 x1 x2 x3 x4 x5 y0 y1 y2 y3 y4 y5 lx ly;go_wp2_with fail;generalize hgd:w4.heap.size=gd at*;generalize w4.alloc (.cells #[.bool (aQ b1.1 b1.2.1),.slice fo lf cf,iV b1.2.2] 92)=u at*;have Q0:Hid (∀W,Below u.heap.size u W→ax 67 #[.agg #[.bool a1.1,.slice ao la ca,iV a1.2.2],.agg #[.bool b1.1,.slice co lc cc,iV b1.2.2]] W fun ev w''=>∃vo vl vc,ev= .returned (.agg #[.bool q0.1,.slice vo vl vc,iV q0.2.2])∧vl=(digits q0.2.1).length∧aq w'' (.slice vo vl vc) q0.2.1∧Below W.heap.size W w''):=fun W hb=>Hq0.out W ao co la ca lc cc LA.out (NA.out.below hb ae) LC.out (NC.out.below hb ae)
  have Q1:Hid (∀W,Below u.heap.size u W→ax 67 #[.agg #[.bool a1.1,.slice ao la ca,iV a1.2.2],.agg #[.bool b2.1,.slice do_ ld cd,iV b2.2.2]] W fun ev w''=>∃vo vl vc,ev= .returned (.agg #[.bool q1.1,.slice vo vl vc,iV q1.2.2])∧vl=(digits q1.2.1).length∧aq w'' (.slice vo vl vc) q1.2.1∧Below W.heap.size W w''):=fun W hb=>Hq1.out W ao do_ la ca ld cd LA.out (NA.out.below hb ae) LD.out (ND.out.below hb ae)
  have Q2:Hid (∀W,Below u.heap.size u W→ax 67 #[.agg #[.bool a2.1,.slice bo lb cb,iV a2.2.2],.agg #[.bool b1.1,.slice co lc cc,iV b1.2.2]] W fun ev w''=>∃vo vl vc,ev= .returned (.agg #[.bool q2.1,.slice vo vl vc,iV q2.2.2])∧vl=(digits q2.2.1).length∧aq w'' (.slice vo vl vc) q2.2.1∧Below W.heap.size W w''):=fun W hb=>Hq2.out W bo co lb cb lc cc LB.out (NB.out.below hb ae) LC.out (NC.out.below hb ae)
  have Q3:Hid (∀W,Below u.heap.size u W→ax 67 #[.agg #[.bool a2.1,.slice bo lb cb,iV a2.2.2],.agg #[.bool b2.1,.slice do_ ld cd,iV b2.2.2]] W fun ev w''=>∃vo vl vc,ev= .returned (.agg #[.bool q3.1,.slice vo vl vc,iV q3.2.2])∧vl=(digits q3.2.1).length∧aq w'' (.slice vo vl vc) q3.2.1∧Below W.heap.size W w''):=fun W hb=>Hq3.out W bo do_ lb cb ld cd LB.out (NB.out.below hb ae) LD.out (ND.out.below hb ae)
  go_cut [23,24] (fun s8 s9 wc=>∃g,s8= .pointer (some ⟨g,0,none⟩)∧s9=iV (r3:Int)∧Fin w wc (w.heap.size+1+1) g (nV r1) (nV r2))
  case first=>
   have iN:=hid m1.out.drew
   go_region_held3 (fun W=>W.cell? ⟨ga,0,none⟩=some (.bool a1.1)∧W.cell? ⟨ga,1,none⟩=some (.slice ao la ca)∧W.cell? ⟨ga,2,none⟩=some (.int .i64 a1.2.2)∧W.cell? ⟨ga,3,none⟩=some (.bool a2.1)∧W.cell? ⟨ga,4,none⟩=some (.slice bo lb cb)∧W.cell? ⟨ga,5,none⟩=some (.int .i64 a2.2.2)∧W.cell? ⟨gb,0,none⟩=some (.bool b1.1)∧W.cell? ⟨gb,1,none⟩=some (.slice co lc cc)∧W.cell? ⟨gb,2,none⟩=some (.int .i64 b1.2.2)∧W.cell? ⟨gb,3,none⟩=some (.bool b2.1)∧W.cell? ⟨gb,4,none⟩=some (.slice do_ ld cd)∧W.cell? ⟨gb,5,none⟩=some (.int .i64 b2.2.2)) (first|with_reducible exact iN.out.cells|with_reducible exact(m1.out.alloc _).drew.cells|with_reducible exact(iN.out.alloc _).cells|with_reducible exact((iN.out.alloc _).alloc _).cells|with_reducible exact(iN.out.set2 zf.out _ _).cells)
    (first
      |(go_at_call 67;with_reducible (refine (Q0.out _ ?_).mono ?_);(with_reducible exact iN.out.hu);rintro e v0 ⟨o0,l0,c0,rfl,hl,hn,hbk⟩
        have E0:=hid hl;have N0:=hid hn;have iN:=hid (iN.out.below hbk);clear hl hn hbk)
      |(go_at_call 67;with_reducible (refine (Q0.out _ ?_).mono ?_);(with_reducible exact(m1.out.alloc _).drew.hu);rintro e v0 ⟨o0,l0,c0,rfl,hl,hn,hbk⟩
        have E0:=hid hl;have N0:=hid hn;have zf:=hid ((bD.new m1.out.sz).drew.below hbk);have iN:=hid ((m1.out.alloc _).drew.below hbk);clear hl hn hbk)
      |(go_at_call 67;with_reducible (refine (Q1.out _ ?_).mono ?_);(with_reducible exact iN.out.hu);rintro e v1 ⟨o1,l1,c1,rfl,hl,hn,hbk⟩
        have E1:=hid hl;have N1:=hid hn;have N0:=hid (N0.out.below hbk ae)
        try(have zf:Hid (bD u.heap.size v1 _):=zf.out.below hbk)
        have iN:=hid (iN.out.below hbk);clear hl hn hbk)
      |(go_at_call 67;with_reducible (refine (Q1.out _ ?_).mono ?_);(with_reducible exact(iN.out.alloc _).hu);rintro e v1 ⟨o1,l1,c1,rfl,hl,hn,hbk⟩
        have E1:=hid hl;have N1:=hid hn;have N0:Hid (aq v1 (.slice o0 l0 c0) _):=(N0.out.below aJ ae).below hbk ae;have zf:=hid ((bD.new iN.out.sz).below hbk);have iN:=hid ((iN.out.alloc _).below hbk);clear hl hn hbk)
      |(go_at_call 67;with_reducible (refine (Q2.out _ ?_).mono ?_);(with_reducible exact iN.out.hu);rintro e v2 ⟨o2,l2,c2,rfl,hl,hn,hbk⟩
        have E2:=hid hl;have N2:=hid hn;have N0:=hid (N0.out.below hbk ae);have N1:=hid (N1.out.below hbk ae)
        try(have zf:Hid (bD u.heap.size v2 _):=zf.out.below hbk)
        have iN:=hid (iN.out.below hbk);clear hl hn hbk)
      |(go_at_call 67;with_reducible (refine (Q2.out _ ?_).mono ?_);(with_reducible exact(iN.out.alloc _).hu);rintro e v2 ⟨o2,l2,c2,rfl,hl,hn,hbk⟩
        have E2:=hid hl;have N2:=hid hn;have N0:Hid (aq v2 (.slice o0 l0 c0) _):=(N0.out.below aJ ae).below hbk ae;have N1:Hid (aq v2 (.slice o1 l1 c1) _):=(N1.out.below aJ ae).below hbk ae;have zf:=hid ((bD.new iN.out.sz).below hbk);have iN:=hid ((iN.out.alloc _).below hbk);clear hl hn hbk)
      |(go_at_call 67;with_reducible (refine (Q3.out _ ?_).mono ?_);(with_reducible exact iN.out.hu);rintro e v3 ⟨o3,l3,c3,rfl,hl,hn,hbk⟩
        have E3:=hid hl;have N3:=hid hn;have N0:=hid (N0.out.below hbk ae);have N1:=hid (N1.out.below hbk ae);have N2:=hid (N2.out.below hbk ae)
        try(have zf:Hid (bD u.heap.size v3 _):=zf.out.below hbk)
        have iN:=hid (iN.out.below hbk);clear hl hn hbk)
      |(go_at_call 67;with_reducible (refine (Q3.out _ ?_).mono ?_);(with_reducible exact(iN.out.alloc _).hu);rintro e v3 ⟨o3,l3,c3,rfl,hl,hn,hbk⟩
        have E3:=hid hl;have N3:=hid hn;have N0:Hid (aq v3 (.slice o0 l0 c0) _):=(N0.out.below aJ ae).below hbk ae;have N1:Hid (aq v3 (.slice o1 l1 c1) _):=(N1.out.below aJ ae).below hbk ae;have N2:Hid (aq v3 (.slice o2 l2 c2) _):=(N2.out.below aJ ae).below hbk ae;have zf:=hid ((bD.new iN.out.sz).below hbk);have iN:=hid ((iN.out.alloc _).below hbk);clear hl hn hbk)
      |(go_at_call 63;refine (HSP.out _ _ o0 o1 o2 o3 l0 l1 l2 l3 c0 c1 c2 c3 ?_ E0.out E1.out E2.out E3.out ?_ ?_ ?_ ?_).mono ?_
        ·exact af v3 _
        ·exact N0.out.below ((Below.refl _ v3).alloc ae _) ae
        ·exact N1.out.below ((Below.refl _ v3).alloc ae _) ae
        ·exact N2.out.below ((Below.refl _ v3).alloc ae _) ae
        ·exact N3.out.below ((Below.refl _ v3).alloc ae _) ae
        rintro e v4 ⟨rfl,hbk⟩
        try(have zf:Hid (bD u.heap.size v4 _):=(zf.out.alloc _).below hbk;obtain⟨zc0,zc1,zc2,zc3⟩:=aj zf.out.1)
        have iN:=hid ((iN.out.alloc _).below hbk);clear hbk)
      |(go_at_call 63;refine (HSP.out _ _ o0 o1 o2 o3 l0 l1 l2 l3 c0 c1 c2 c3 ?_ E0.out E1.out E2.out E3.out ?_ ?_ ?_ ?_).mono ?_
        ·exact ai (af v3 _) _
        ·exact N0.out.below (((Below.refl _ v3).alloc ae _).alloc (by simp) _) ae
        ·exact N1.out.below (((Below.refl _ v3).alloc ae _).alloc (by simp) _) ae
        ·exact N2.out.below (((Below.refl _ v3).alloc ae _).alloc (by simp) _) ae
        ·exact N3.out.below (((Below.refl _ v3).alloc ae _).alloc (by simp) _) ae
        rintro e v4 ⟨rfl,hbk⟩
        have zf:Hid (bD u.heap.size v4 (v3.heap.size+1)):=by
         have hz:=(bD.new (iN.out.alloc (.cells #[.bool q0.1,.slice o0 l0 c0,iV q0.2.2,.bool q1.1,.slice o1 l1 c1,iV q1.2.2,.bool q2.1,.slice o2 l2 c2,iV q2.2.2,.bool q3.1,.slice o3 l3 c3,iV q3.2.2] 92)).sz).below hbk;simp only[World.size_alloc] at hz;exact hz
        obtain⟨zc0,zc1,zc2,zc3⟩:=aj zf.out.1;have iN:=hid (((iN.out.alloc _).alloc _).below hbk);clear hbk)
      |(go_at_call 63;refine (HSP.out _ _ o0 o1 o2 o3 l0 l1 l2 l3 c0 c1 c2 c3 ?_ E0.out E1.out E2.out E3.out ?_ ?_ ?_ ?_).mono ?_
        ·(have hgx:=af (v3.alloc (.cells #[uV 0,uV 0] 28)) (.cells #[.bool q0.1,.slice o0 l0 c0,iV q0.2.2,.bool q1.1,.slice o1 l1 c1,iV q1.2.2,.bool q2.1,.slice o2 l2 c2,iV q2.2.2,.bool q3.1,.slice o3 l3 c3,iV q3.2.2] 92);simp only[World.size_alloc] at hgx;exact hgx)
        ·exact N0.out.below (((Below.refl _ v3).alloc ae _).alloc (by simp) _) ae
        ·exact N1.out.below (((Below.refl _ v3).alloc ae _).alloc (by simp) _) ae
        ·exact N2.out.below (((Below.refl _ v3).alloc ae _).alloc (by simp) _) ae
        ·exact N3.out.below (((Below.refl _ v3).alloc ae _).alloc (by simp) _) ae
        rintro e v4 ⟨rfl,hbk⟩;have zf:=hid (((bD.new iN.out.sz).alloc _).below hbk);obtain⟨zc0,zc1,zc2,zc3⟩:=aj zf.out.1;have iN:=hid (((iN.out.alloc _).alloc _).below hbk);clear hbk))
   all_goals(go_wp2_with fail;go_meet;refine⟨_,rfl,rfl,?_⟩)
   all_goals first|with_reducible exact iN.out.finSet zf.out _ _|with_reducible exact iN.out.finNew _ _
  case rest=>
   obtain⟨g,rfl,rfl,F⟩:=hcut;have HF:Hid (Fin w wc (w.heap.size+1+1) g (nV r1) (nV r2)):=F;obtain⟨p0,p1,-,-⟩:=aj F.c;clear F;go_wp2_with fail;refine (HNM.out _).mono ?_;rintro ev w9 ⟨rfl,hb9⟩;have HK:Hid (w9.heap[(w.heap.size+1+1)]?=_):=aa HF.out.k2 hb9;have HB:=hid (HF.out.hb.trans (hb9.mono HF.out.hb.size));clear hb9 p0 p1;obtain⟨q0,q1,q2,q3⟩:=aj HK.out;go_wp2_with fail;obtain⟨p0,p1,-,-⟩:=aj (aA (a:=uV ((aO (r1,r2,r3) ⟨#[42]⟩).1:Int)) (b:=uV ((aO (r1,r2,r3) ⟨#[42]⟩).2.1:Int)) HK.out);refine bodyPost_ret (v:= .tuple #[.agg #[uV ((aO (r1,r2,r3) ⟨#[42]⟩).1:Int),uV ((aO (r1,r2,r3) ⟨#[42]⟩).2.1:Int)],iV ((aO (r1,r2,r3) ⟨#[42]⟩).2.2.1:Int),.string (aO (r1,r2,r3) ⟨#[42]⟩).2.2.2]) (by simp[results,Tryz.results29,go_sem,p0,p1]) rfl ?_;exact⟨rfl,(HB.out.setCell (by exact HF.out.l2) _).setCell (by exact HF.out.l2) _⟩
end
end Go.Proofs.YtonhpkigoplmaaaGreatDoor
