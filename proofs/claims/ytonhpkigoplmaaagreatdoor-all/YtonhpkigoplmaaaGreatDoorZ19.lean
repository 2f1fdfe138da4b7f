import Derived.Test.YtonhpkigoplmaaaGreatDoorZ18
import Derived.Test.YtonhpkigoplmaaaGreatDoorZ13
import Derived.Test.YtonhpkigoplmaaaGreatDoorZ14
set_option maxRecDepth 100000
set_option maxHeartbeats 40000000
namespace Go.Proofs.YtonhpkigoplmaaaGreatDoor
section
open Go.RowKit Go.Extern Ieee
theorem Ak {d f:Nat} {p q:Int} (hd:FR d p) (hf:FR f q) (pd:plP p=true) (pf:plP q=true):kw d<kw f↔p<q:=by
 have e1:=jH d;have e2:=jH f;rw[hd.pos] at e1;rw[hf.pos] at e2;constructor
 ·intro h;have h1:=fN (Int.le_of_lt h);rw[←e1,←e2] at h1;apply Decidable.byContradiction;intro hc;have he:p=q:=by omega
  have:d=f:=by rw[hd.word pd,hf.word pf,he]
  subst this;omega
 ·intro h;apply Decidable.byContradiction;intro hc;have h1:=fN (show kw f≤kw d by omega);rw[←e1,←e2] at h1;omega
theorem GZ {u v:Nat} (i:Iv u u) (j:Iv v v):boxP (aW u) (aW v)=(u,v,0):=by
 rw[fq i.q1 j.q1,←i.f1.word i.q1,←j.f1.word j.q1]
theorem tB {b:Nat} {x:ap} (hb:b<18446744073709551616) (h:au b=some x):Iv (posW b) (posW b)∧∀way,ar x way=aW (posW b):=by
 have e:au (posW b)=some x:=by rw[dU _ hb];exact h
 have e2:plT (posW b)=x:=by unfold plT;rw[e];rfl
 exact⟨⟨fP hb,fP hb,mJ _,mJ _,by rw[e2];exact e,by rw[e2];exact e,Int.le_refl _⟩,fun way=>gN (fP hb) e way⟩
theorem Iv.word {u d:Nat} (i:Iv u u) (f:FR d (aW u)):d=u:=(f.word i.q1).trans (i.f1.word i.q1).symm
theorem zv {l h:Nat} (i:Iv l h) (hs:¬sgnI (plT l).1 (plT l).2.1<0):(plT l).1=false:=by
 have hp:=i.p1;generalize plT l=x at*;unfold au at hp;split at hp
 ·cases hp;rfl
 ·split at hp
  ·cases hp
  ·cases hp
   unfold sgnI at hs;simp only at hs⊢;rw[if_neg (show¬l % 4503599627370496+4503599627370496=0 by omega)] at hs
   cases hd:decide (l / 9223372036854775808=1)
   ·rfl
   ·rw[hd,if_pos rfl] at hs;omega
theorem DY (A:Nat→Addr) {al ah bl_ bh:Nat} (i:Iv al ah):io A 0 al ah bl_ bh (az (bC (plT ah)) (bC (plT al))).1 (az (bC (plT ah)) (bC (plT al))).2.1 0 ⟨#[]⟩:=by
 have n1:=iY i.lt1 i.p1;have n2:=iY i.lt2 i.p2;obtain⟨a1,a2⟩:=tB (g8 i.lt1) n1;obtain⟨b1,b2⟩:=tB (g8 i.lt2) n2;rw[bP,a2,b2,GZ b1 a1];exact Or.inl ⟨rfl,rfl,rfl,(fun w=>Ep al ah w (g8 i.lt1) (g8 i.lt2) (by rw[n1];rfl) (by rw[n2];rfl))⟩
theorem zF {p q:Int} (h1:plP p=true) (h2:plP q=true):plP (min p q)=true:=by
 rcases Int.le_total p q with h|h
 ·rw[Int.min_eq_left h];exact h1
 ·rw[Int.min_eq_right h];exact h2
theorem yP {p q:Int} (h1:plP p=true) (h2:plP q=true):plP (max p q)=true:=by
 rcases Int.le_total p q with h|h
 ·rw[Int.max_eq_right h];exact h2
 ·rw[Int.max_eq_left h];exact h1
theorem BY (A:Nat→Addr) {al ah bl_ bh:Nat} (i:Iv al ah) (j:Iv bl_ bh):io A 1 al ah bl_ bh (ez (plT al) (plT ah) (plT bl_) (plT bh)).1 (ez (plT al) (plT ah) (plT bl_) (plT bh)).2.1 0 ⟨#[]⟩:=by
 rw[fZ,i.v1,i.v2,j.v1,j.v2,i.v1,i.v2,j.v1,j.v2];have hi:=i.le;have hj:=j.le;have e1:min (min (min (aW al) (aW ah)) (aW bl_)) (aW bh)=min (aW al) (aW bl_):=by omega
 have e2:max (max (max (aW al) (aW ah)) (aW bl_)) (aW bh)=max (aW ah) (aW bh):=by omega
 rw[e1,e2,fq (zF i.q1 j.q1) (yP i.q2 j.q2)];rw[←(i.f1.mn j.f1).word (zF i.q1 j.q1),←(i.f2.mx j.f2).word (yP i.q2 j.q2)];exact Or.inr (Or.inl ⟨rfl,rfl,rfl,(fun w=>Dg al ah bl_ bh _ _ _ _ w i.f1 i.f2 j.f1 j.f2)⟩)
theorem Ci (A:Nat→Addr) {al ah bl_ bh:Nat} (i:Iv al ah) (j:Iv bl_ bh):io A 2 al ah bl_ bh (jA (plT al) (plT ah) (plT bl_) (plT bh)).1 (jA (plT al) (plT ah) (plT bl_) (plT bh)).2.1 (jA (plT al) (plT ah) (plT bl_) (plT bh)).2.2 ⟨#[]⟩:=by
 have hlo:∃y,Iv y y∧fC (plT al) (plT bl_)=plT y∧aW y=max (aW al) (aW bl_):=by
  unfold fC;rw[dX i.low j.low];by_cases h:aW al<aW bl_
  ·rw[decide_eq_true h,if_pos rfl];exact⟨bl_,j.low,rfl,by omega⟩
  ·rw[decide_eq_false h,if_neg Bool.false_ne_true];exact⟨al,i.low,rfl,by omega⟩
 have hhi:∃x,Iv x x∧dK (plT ah) (plT bh)=plT x∧aW x=min (aW ah) (aW bh):=by
  unfold dK;rw[dX j i];by_cases h:aW bh<aW ah
  ·rw[decide_eq_true h,if_pos rfl];exact⟨bh,j.high,rfl,by omega⟩
  ·rw[decide_eq_false h,if_neg Bool.false_ne_true];exact⟨ah,i.high,rfl,by omega⟩
 obtain⟨y,iy,ey,py⟩:=hlo;obtain⟨x,ix,ex,px⟩:=hhi;have fu:FR (fmax al bl_) (aW y):=by rw[py];exact i.f1.mx j.f1
 have fv:FR (fmin ah bh) (aW x):=by rw[px];exact i.f2.mn j.f2
 have eu:=iy.word fu;have ev:=ix.word fv
 have ho:FloatKind.f64.format.order (fmax al bl_) (fmin ah bh)=some (compare (kw y) (kw x)):=by
  rw[eu,ev];exact lv iy.f1 ix.f1
 have hk:=Ak ix.f1 iy.f1 ix.q1 iy.q1;unfold jA;rw[ey,ex,dX ix iy];by_cases h:aW x<aW y
 ·rw[decide_eq_true h,if_pos rfl];have hg:=Int.compare_eq_gt.2 (hk.2 h);rw[hg] at ho;exact Or.inr (Or.inr (Or.inl ⟨rfl,(fun w hS=>AG A al ah bl_ bh _ _ _ _ w hS i.f1 i.f2 j.f1 j.f2 ho)⟩))
 ·rw[decide_eq_false h,if_neg Bool.false_ne_true,bP,iy.v1,ix.v1,GZ iy ix];refine Or.inr (Or.inr (Or.inl ⟨rfl,(fun w _=>?_)⟩));have hm:=zX A al ah bl_ bh _ _ _ _ _ w i.f1 i.f2 j.f1 j.f2 ho (fun hc=>h (hk.1 (Int.compare_eq_gt.1 hc)));rw[eu,ev] at hm;exact hm
theorem Dz (A:Nat→Addr) {al ah bl_ bh:Nat} (i:Iv al ah) (j:Iv bl_ bh) (r:Nat×Nat×Nat×ByteArray) (hr:r=aO (az (sumT (plT al) (plT bl_)) (sumT (plT ah) (plT bh))) ⟨#[43]⟩):io A 3 al ah bl_ bh r.1 r.2.1 r.2.2.1 r.2.2.2:=by
 obtain⟨d1,u1,e1,g1⟩:=jg i.lt1 j.lt1 i.z1 i.p1 j.p1;obtain⟨d2,u2,e2,g2⟩:=jg i.lt2 j.lt2 i.z2 i.p2 j.p2;rw[bP,ji] at hr;subst hr;exact Or.inr (Or.inr (Or.inr (Or.inl ⟨rfl,(fun w hS=>DJ A al ah bl_ bh d1 u1 d2 u2 _ _ w hS g1 g2 e1.1 e2.2)⟩)))
theorem EG (A:Nat→Addr) {al ah bl_ bh:Nat} (i:Iv al ah) (j:Iv bl_ bh) (r:Nat×Nat×Nat×ByteArray) (hr:r=aO (az (sumT (plT al) (bC (plT bh))) (sumT (plT ah) (bC (plT bl_)))) ⟨#[45]⟩):io A 4 al ah bl_ bh r.1 r.2.1 r.2.2.1 r.2.2.2:=by
 obtain⟨d1,u1,e1,g1⟩:=jg i.lt1 (g8 j.lt2) i.z1 i.p1 (iY j.lt2 j.p2);obtain⟨d2,u2,e2,g2⟩:=jg i.lt2 (g8 j.lt1) i.z2 i.p2 (iY j.lt1 j.p1);rw[bP,ji] at hr;subst hr;exact Or.inr (Or.inr (Or.inr (Or.inr (Or.inl ⟨rfl,(fun w hS=>Dv A al ah bl_ bh d1 u1 d2 u2 _ _ w hS g1 g2 e1.1 e2.2)⟩))))
theorem Ev (A:Nat→Addr) {al ah bl_ bh:Nat} (i:Iv al ah) (j:Iv bl_ bh) (r:Nat×Nat×Nat×ByteArray) (hr:r=aO (ez (aT (plT al) (plT bl_)) (aT (plT al) (plT bh)) (aT (plT ah) (plT bl_)) (aT (plT ah) (plT bh))) ⟨#[42]⟩):io A 5 al ah bl_ bh r.1 r.2.1 r.2.2.1 r.2.2.2:=by
 obtain⟨d1,u1,e1,g1⟩:=eN i.lt1 j.lt1 i.p1 j.p1;obtain⟨d2,u2,e2,g2⟩:=eN i.lt1 j.lt2 i.p1 j.p2;obtain⟨d3,u3,e3,g3⟩:=eN i.lt2 j.lt1 i.p2 j.p1;obtain⟨d4,u4,e4,g4⟩:=eN i.lt2 j.lt2 i.p2 j.p2;rw[fZ,ji] at hr;subst hr;have f1:=e1.1.mn e2.1;have f2:=f1.mn e3.1;have f3:=f2.mn e4.1;have k1:=e1.2.mx e2.2;have k2:=k1.mx e3.2;have k3:=k2.mx e4.2;exact Or.inr (Or.inr (Or.inr (Or.inr (Or.inr (Or.inl ⟨rfl,(fun w hS=>Ei A al ah bl_ bh _ _ _ _ w hS (fun w=>qn al ah bl_ bh d1 u1 d2 u2 d3 u3 d4 u4 _ _ _ _ _ _ w (fun w ts t=>bz w ts t e1.1 e2.1) (fun w ts t=>bz w ts t f1 e3.1) (fun w ts t=>bz w ts t f2 e4.1) (fun w ts t=>bA w ts t e1.2 e2.2) (fun w ts t=>bA w ts t k1 e3.2) (fun w ts t=>bA w ts t k2 e4.2) g1 g2 g3 g4) f3 k3)⟩)))))
theorem Dt (A:Nat→Addr) {al ah bl_ bh:Nat} (i:Iv al ah) (j:Iv bl_ bh) (r:Nat×Nat×Nat×ByteArray) (hr:r=if holdsT (plT bl_) (plT bh)=true then(0,0,4,⟨#[47]⟩) else aO (ez (quoN (plT al) (plT bl_)) (quoN (plT al) (plT bh)) (quoN (plT ah) (plT bl_)) (quoN (plT ah) (plT bh))) ⟨#[47]⟩):io A 6 al ah bl_ bh r.1 r.2.1 r.2.2.1 r.2.2.2:=by
 obtain⟨o1,ho1,hl1,hg1⟩:=j6 j;obtain⟨o2,ho2,hl2,hg2⟩:=j6 j.high
 have hh:(o1 != .gt && o2 != .lt)=holdsT (plT bl_) (plT bh):=by
  have x1:(o1 != .gt)=decide (sgnI (plT bl_).1 (plT bl_).2.1≤0):=by
   by_cases h:0<sgnI (plT bl_).1 (plT bl_).2.1
   ·rw[hg1.2 h,decide_eq_false (by omega)];rfl
   ·rw[decide_eq_true (show sgnI (plT bl_).1 (plT bl_).2.1≤0 by omega)]
    cases o1 with
    |lt=>rfl
    |eq=>rfl
    |gt=>exact absurd (hg1.1 rfl) h
  have x2:(o2 != .lt)=decide (0≤sgnI (plT bh).1 (plT bh).2.1):=by
   by_cases h:sgnI (plT bh).1 (plT bh).2.1<0
   ·rw[hl2.2 h,decide_eq_false (by omega)];rfl
   ·rw[decide_eq_true (show 0≤sgnI (plT bh).1 (plT bh).2.1 by omega)]
    cases o2 with
    |lt=>exact absurd (hl2.1 rfl) h
    |eq=>rfl
    |gt=>rfl
  rw[x1,x2];rfl
 cases hz:holdsT (plT bl_) (plT bh)
 ·rw[hz] at hh hr;rw[if_neg Bool.false_ne_true] at hr;obtain⟨n1,n2⟩:=zY j hz;obtain⟨d1,u1,e1,g1⟩:=fb i.lt1 j.lt1 i.p1 j.p1 n1;obtain⟨d2,u2,e2,g2⟩:=fb i.lt1 j.lt2 i.p1 j.p2 n2;obtain⟨d3,u3,e3,g3⟩:=fb i.lt2 j.lt1 i.p2 j.p1 n1;obtain⟨d4,u4,e4,g4⟩:=fb i.lt2 j.lt2 i.p2 j.p2 n2;rw[fZ,ji] at hr;subst hr;have f1:=e1.1.mn e2.1;have f2:=f1.mn e3.1;have f3:=f2.mn e4.1;have k1:=e1.2.mx e2.2;have k2:=k1.mx e3.2;have k3:=k2.mx e4.2;exact Or.inr (Or.inr (Or.inr (Or.inr (Or.inr (Or.inr (Or.inl ⟨rfl,(fun w hS=>DT A al ah bl_ bh _ _ _ _ o1 o2 w hS ho1 ho2 hh (fun w=>pV al ah bl_ bh d1 u1 d2 u2 d3 u3 d4 u4 _ _ _ _ _ _ w (fun w ts t=>bz w ts t e1.1 e2.1) (fun w ts t=>bz w ts t f1 e3.1) (fun w ts t=>bz w ts t f2 e4.1) (fun w ts t=>bA w ts t e1.2 e2.2) (fun w ts t=>bA w ts t k1 e3.2) (fun w ts t=>bA w ts t k2 e4.2) g1 g2 g3 g4) f3 k3)⟩))))))
 ·rw[hz] at hh hr;rw[if_pos rfl] at hr;subst hr;exact Or.inr (Or.inr (Or.inr (Or.inr (Or.inr (Or.inr (Or.inl ⟨rfl,(fun w hS=>Bg A al ah bl_ bh o1 o2 w hS ho1 ho2 hh)⟩))))))
theorem A3 (A:Nat→Addr) {al ah bl_ bh:Nat} (i:Iv al ah) (r:Nat×Nat×Nat×ByteArray) (hr:r=if sgnI (plT al).1 (plT al).2.1<0 then(0,0,5,⟨#[115,113,114,116]⟩) else aO (az (eR (plT al)) (eR (plT ah))) ⟨#[115,113,114,116]⟩):io A 7 al ah bl_ bh r.1 r.2.1 r.2.2.1 r.2.2.2:=by
 obtain⟨o1,ho1,hl1,hg1⟩:=j6 i;by_cases hs:sgnI (plT al).1 (plT al).2.1<0
 ·rw[if_pos hs] at hr;rw[hl1.2 hs] at ho1;subst hr;exact Or.inr (Or.inr (Or.inr (Or.inr (Or.inr (Or.inr (Or.inr (Or.inl ⟨rfl,(fun w hS=>Dm A al ah w hS ho1)⟩)))))))
 ·rw[if_neg hs] at hr
  have hs2:¬sgnI (plT ah).1 (plT ah).2.1<0:=by
   have a:=(pC (plT al) 1).1;have b:=(pC (plT ah) 1).1;rw[i.v1 1] at a;rw[i.v2 1] at b;have:=i.le;omega
  obtain⟨d1,u1,e1,g1⟩:=rD i.lt1 i.z1 i.p1 (zv i hs);obtain⟨d2,u2,e2,g2⟩:=rD i.lt2 i.z2 i.p2 (zv i.high hs2);rw[bP,ji] at hr;subst hr;exact Or.inr (Or.inr (Or.inr (Or.inr (Or.inr (Or.inr (Or.inr (Or.inl ⟨rfl,(fun w hS=>At A al ah d1 u1 d2 u2 o1 _ _ w hS ho1 (fun hc=>hs (hl1.1 hc)) g1 g2 e1.1 e2.2)⟩)))))))
theorem ft (A:Nat→Addr) (k:Int) {al ah bl_ bh:Nat} (i:Iv al ah) (j:Iv bl_ bh) (r:Nat×Nat×Nat×ByteArray) (hr:r=refOpN k (plT al) (plT ah) (plT bl_) (plT bh)):io A k al ah bl_ bh r.1 r.2.1 r.2.2.1 r.2.2.2:=by
 unfold refOpN at hr;by_cases k0:k=0
 ·subst k0;rw[if_pos rfl] at hr;subst hr;exact DY A i
 rw[if_neg k0] at hr;by_cases k1:k=1
 ·subst k1;rw[if_pos rfl] at hr;subst hr;exact BY A i j
 rw[if_neg k1] at hr;by_cases k2:k=2
 ·subst k2;rw[if_pos rfl] at hr;subst hr;exact Ci A i j
 rw[if_neg k2] at hr;by_cases k3:k=3
 ·subst k3;rw[if_pos rfl] at hr;exact Dz A i j r hr
 rw[if_neg k3] at hr;by_cases k4:k=4
 ·subst k4;rw[if_pos rfl] at hr;exact EG A i j r hr
 rw[if_neg k4] at hr;by_cases k5:k=5
 ·subst k5;rw[if_pos rfl] at hr;exact Ev A i j r hr
 rw[if_neg k5] at hr;by_cases k6:k=6
 ·subst k6;rw[if_pos rfl] at hr;exact Dt A i j r hr
 rw[if_neg k6] at hr;by_cases k7:k=7
 ·subst k7;rw[if_pos rfl] at hr;exact A3 A i r hr
 rw[if_neg k7,bP,i.v1,i.v2,i.box] at hr;subst hr;exact Or.inr (Or.inr (Or.inr (Or.inr (Or.inr (Or.inr (Or.inr (Or.inr (⟨k0,k1,k2,k3,k4,k5,k6,k7,rfl,rfl,rfl,rfl⟩))))))))
theorem qj (A:Nat→Addr) (k:Int) (xl xh yl yh:Nat) (w:World) (hS:aE A w) (h1:xl<18446744073709551616) (h2:xh<18446744073709551616) (h3:yl<18446744073709551616) (h4:yh<18446744073709551616)
  (al ah bl_ bh:Nat) (e1:al=(makeN xl xh).1) (e2:ah=(makeN xl xh).2.1) (e3:bl_=(makeN yl yh).1) (e4:bh=(makeN yl yh).2.1) (r:Nat×Nat×Nat×ByteArray) (hr:r=refOpN k (plT al) (plT ah) (plT bl_) (plT bh)):
  aw 21 #[iV k,gU xl xh,gU yl yh] w (.tuple #[gU r.1 r.2.1,iV (r.2.2.1:Int),.string r.2.2.2]):=by
 have iA:Iv al ah:=by rw[e1,e2];exact dZ xl xh h1 h2
 have iB:Iv bl_ bh:=by rw[e3,e4];exact dZ yl yh h3 h4
 refine yB A k xl xh yl yh al ah bl_ bh _ _ _ _ w hS ?_ ?_ (ft A k iA iB r hr)
 ·intro w hS;rw[e1,e2];exact gh A xl xh w h1 h2 hS
 ·intro w hS;rw[e3,e4];exact gh A yl yh w h3 h4 hS
end
section
open Go.RowKit
theorem Ib (A:Nat→Addr) (z:bW) (ao:Option Addr) (n c:Nat) (w:World) (hn:n≤1466015503701) (hS:aE A w)
  (hz:n=0∨∃g off,ao=some ⟨g,off,none⟩∧g<w.heap.size∧z.at w g off n) (hx:∀i,i<n→z.xl i<18446744073709551616∧z.xh i<18446744073709551616∧z.yl i<18446744073709551616∧z.yh i<18446744073709551616):
  aw 4 #[.slice ao n c] w (.bool true):=by
 have HU:=mY A z ao n c 2 2 w hn hS hz (fun i hi h1 h2 W hW=>by
  have hk:z.k i=2:=by omega
  unfold bW.val;rw[hk];obtain⟨x1,x2,x3,x4⟩:=hx i hi;exact xB A _ _ _ _ _ _ _ _ _ _ _ _ _ _ W hW (fun W hS=>qj A _ _ _ _ _ W hS x1 x2 x3 x4 _ _ _ _ rfl rfl rfl rfl _ rfl) (fun W=>kh _ _ _ _ _ W x1 x2 x3 x4 _ _ _ _ rfl rfl rfl rfl _ rfl))
 clear hz hx hS hn;have HU:=hid HU;go_enter Tryz.func4,Tryz.ntmps4;go_wp2_with fail;refine Calls.mono HU.out ?_;rintro e w1 ⟨rfl,hb1⟩;clear HU;go_wp2
 go_ret
 exact⟨rfl,hb1⟩
end
section
open Go.RowKit Go.Extern Ieee
theorem iX (x:ap):ar x (-1)≤ar x 1:=by
 obtain⟨s,n,e⟩:=x;unfold ar;simp only;by_cases h0:n=0
 ·rw[if_pos h0,if_pos h0];exact Int.le_refl _
 ·rw[if_neg h0,if_neg h0];have h1:endR s n e (-1)=rung n e+if s && aP n then 1 else 0:=by unfold endR;rw[jf]
  have h2:endR s n e 1=rung n e+if(!s) && aP n then 1 else 0:=by unfold endR;rw[mt]
  unfold sgI
  cases s
  ·rw[if_neg Bool.false_ne_true,if_neg Bool.false_ne_true];apply fK;rw[h1,h2];simp only[Bool.false_and,Bool.false_eq_true,if_false];split<;>omega
  ·rw[if_pos rfl,if_pos rfl]
   have:aX (endR true n e 1)≤aX (endR true n e (-1)):=by
    apply fK;rw[h1,h2];simp only[Bool.not_true,Bool.false_and,Bool.false_eq_true,if_false];split<;>omega
   omega
theorem oE {x:ap} {way:Int} (h:plP (ar x way)=true):FR (wdP (ar x way)) (ar x way):=by
 by_cases h0:x.2.1=0
 ·have:ar x way=0:=by unfold ar;rw[if_pos h0]
  rw[this,nF];exact jb
 ·have hp:ar x way=sgI x.1 (aX (endR x.1 x.2.1 x.2.2 way)):=by unfold ar;rw[if_neg h0]
  have h':=h;rw[hp] at h';obtain⟨a,b,c⟩:=rv x.1 h';have hw:wdP (ar x way)=wd x.1 (endR x.1 x.2.1 x.2.2 way).toNat:=by rw[hp,c,rC x.1 (by omega)]
  rw[hw];exact lF x.1 way h0 (by omega) (by omega)
theorem rM {x y:ap} {wx wy:Int} (h1:plP (ar x wx)=true) (h2:plP (ar y wy)=true) (hle:ar x wx≤ar y wy):Iv (wdP (ar x wx)) (wdP (ar y wy)):=by
 have f1:=oE h1;have f2:=oE h2;exact⟨f1.lt,f2.lt,f1.nz,f2.nz,cC (by rw[f1.plain];exact h1),cC (by rw[f2.plain];exact h2),by rw[f1.pos,f2.pos];exact hle⟩
theorem dm {l h:Nat} (i:Iv l h):makeN l h=(l,h,0):=by
 have e1:posW l=l:=by
  unfold posW;by_cases hz:l % 9223372036854775808=0
  ·rw[if_pos hz];have:=i.lt1;have:=i.z1;omega
  ·rw[if_neg hz]
 have e2:posW h=h:=by
  unfold posW;by_cases hz:h % 9223372036854775808=0
  ·rw[if_pos hz];have:=i.lt2;have:=i.z2;omega
  ·rw[if_neg hz]
 have hl:iK h l=false:=by
  show lessT (plT h) (plT l)=false
  rw[dX i i.low];exact decide_eq_false (by have:=i.le;omega)
 unfold makeN;rw[if_neg (by rw[i.p1,i.p2];simp),hl,if_neg Bool.false_ne_true,e1,e2]
def fl (n:Int):Nat:=wdP (ar (aC n) (-1))
def fh (n:Int):Nat:=wdP (ar (aC n) 1)
theorem cG {n:Int} (h:n.natAbs≤1152921504606846976) (way:Int):plP (ar (aC n) way)=true:=by
 by_cases h0:n.natAbs=0
 ·have:ar (aC n) way=0:=by unfold ar aC;rw[if_pos h0]
  rw[this];rfl
 ·have hp:ar (aC n) way=sgI (decide (n<0)) (aX (endR (decide (n<0)) n.natAbs 0 way)):=by unfold ar aC;rw[if_neg h0]
  rw[hp];have hb:bl n.natAbs≤61:=bQ (Nat.lt_of_le_of_lt h (by decide));have hb1:=eK (n:=n.natAbs) (by omega);have rb:=cJ 0 h0;have eb:=cO (decide (n<0)) (n:=n.natAbs) 0 way;generalize endR (decide (n<0)) n.natAbs 0 way=r at*;have hc:aX r=r:=by have:=cZ r;omega
  rw[hc];unfold plP sgI;rw[decide_eq_true_eq];right
  cases decide (n<0)
  ·rw[if_neg Bool.false_ne_true];omega
  ·rw[if_pos rfl];omega
theorem Dq {n:Int} (h:n.natAbs≤1152921504606846976):Iv (fl n) (fh n):=rM (cG h _) (cG h _) (iX _)
theorem G4 {n:Int} (h:n.natAbs≤1152921504606846976):bi 2 n=(fl n,fh n,0):=by
 unfold bi;rw[if_pos (Or.inr rfl),bP,fq (cG h _) (cG h _)]
 rfl
theorem Hv {n:Int} (h:n.natAbs≤1152921504606846976):lessT (aC n) (plT (fl n))=false:=by
 have hx:=bk (aC n) (e:=min (aC n).2.2 (plT (fl n)).2.2) (by omega);have hy:=bk (plT (fl n)) (e:=min (aC n).2.2 (plT (fl n)).2.2) (by omega)
 cases hl:lessT (aC n) (plT (fl n))
 ·rfl
 ·exfalso;have h1:=(dw hx hy).1 hl;have h2:leV (plT (fl n)) (aC n):=qQ (cG h _);unfold leV lvA lvB at h2;rw[show min (plT (fl n)).2.2 (aC n).2.2=min (aC n).2.2 (plT (fl n)).2.2 by omega] at h2;omega
theorem G7 {n:Int} (h:n.natAbs≤1152921504606846976):lessT (plT (fh n)) (aC n)=false:=by
 have hx:=bk (aC n) (e:=min (aC n).2.2 (plT (fh n)).2.2) (by omega);have hy:=bk (plT (fh n)) (e:=min (aC n).2.2 (plT (fh n)).2.2) (by omega)
 cases hl:lessT (plT (fh n)) (aC n)
 ·rfl
 ·exfalso;have h1:=(dw hy hx).1 hl;have h2:leV (aC n) (plT (fh n)):=oG (cG h _);unfold leV lvA lvB at h2;omega
theorem dN {n:Int} (h:n.natAbs<9007199254740992):fh n=fl n∧ar (aC n) 1=ar (aC n) (-1):=by
 have:ar (aC n) 1=ar (aC n) (-1):=by
  have hi:=b8 (bQ (by rw[p53];exact h));unfold ar aC endR;simp only[hi,Bool.and_false]
 exact⟨by unfold fh fl;rw[this],this⟩
theorem fW {n:Int} (h:n.natAbs<9007199254740992):bj 0 n (plT (fl n)):=by
 have h':n.natAbs≤1152921504606846976:=by omega
 have h1:=qQ (cG h' _);have h2:leV (aC n) (plT (fh n)):=oG (cG h' _);rw[(dN h).1] at h2;exact AV (jw 0 n) h2 h1
theorem ug {n:Int} {x:ap} (h:bj 0 n x) {way:Int} (hw:way=-1∨way=1):ar x way=ar (aC n) way:=mV h way hw
theorem oC {n:Int} {x:ap} (hx:bj 0 n x) (h:n.natAbs≤1152921504606846976):boxP (ar x (-1)) (ar x 1)=(fl n,fh n,0):=by
 rw[ug hx (Or.inl rfl),ug hx (Or.inr rfl),fq (cG h _) (cG h _)]
 rfl
theorem Au {a b:Int} {x y:ap} (hx:bj 0 a x) (hy:bj 0 b y):bj 0 (a*b) (aT x y):=by
 have h:=oK hx hy;by_cases h0:x.2.1*y.2.1=0
 ·have hz:a*b=0:=by
   have:=h (min 0 (x.2.2+y.2.2)) (by omega) (by omega);rw[h0,Nat.zero_mul] at this;have hp:=Nat.two_pow_pos ((0:Int)+0-min 0 (x.2.2+y.2.2)).toNat
   have e0:sg (x.1^^y.1) 0=0:=by unfold sg;split<;>rfl
   rw[e0] at this;rcases Int.mul_eq_zero.1 this.symm with h|h
   ·exact h
   ·omega
  rw[hz];exact iq (x:=aT x y) h0 0
 ·have:aT x y=((x.1^^y.1),x.2.1*y.2.1,x.2.2+y.2.2):=by
   unfold aT;rw[decide_eq_true h0,Bool.and_true]
  rw[this];exact h
theorem Hx {a b:Int} (ha:a.natAbs≤1073741824) (hb:b.natAbs≤1073741824):refOpN 3 (plT (fl a)) (plT (fh a)) (plT (fl b)) (plT (fh b))=(fl (a+b),fh (a+b),0,⟨#[]⟩):=by
 rw[(dN (n:=a) (by omega)).1,(dN (n:=b) (by omega)).1];have hz:bj 0 (a+b) (sumT (plT (fl a)) (plT (fl b))):=dx (fW (by omega)) (fW (by omega))
 show aO (az (sumT (plT (fl a)) (plT (fl b))) (sumT (plT (fl a)) (plT (fl b)))) ⟨#[43]⟩=_
 rw[bP,oC hz (by omega)]
 rfl
theorem Hy {a b:Int} (ha:a.natAbs≤1073741824) (hb:b.natAbs≤1073741824):refOpN 4 (plT (fl a)) (plT (fh a)) (plT (fl b)) (plT (fh b))=(fl (a-b),fh (a-b),0,⟨#[]⟩):=by
 rw[(dN (n:=a) (by omega)).1,(dN (n:=b) (by omega)).1];have hz:bj 0 (a+-b) (sumT (plT (fl a)) (bC (plT (fl b)))):=dx (fW (by omega)) (kk (fW (by omega)))
 show aO (az (sumT (plT (fl a)) (bC (plT (fl b)))) (sumT (plT (fl a)) (bC (plT (fl b))))) ⟨#[45]⟩=_
 rw[bP,oC hz (by omega)]
 rfl
theorem zA {a b:Int} (ha:a.natAbs≤1073741824) (hb:b.natAbs≤1073741824):(a*b).natAbs≤1152921504606846976:=by
 rw[Int.natAbs_mul];exact Nat.le_trans (Nat.mul_le_mul ha hb) (by decide)
theorem Hs {a b:Int} (ha:a.natAbs≤1073741824) (hb:b.natAbs≤1073741824):refOpN 5 (plT (fl a)) (plT (fh a)) (plT (fl b)) (plT (fh b))=(fl (a*b),fh (a*b),0,⟨#[]⟩):=by
 rw[(dN (n:=a) (by omega)).1,(dN (n:=b) (by omega)).1];have hz:bj 0 (a*b) (aT (plT (fl a)) (plT (fl b))):=Au (fW (by omega)) (fW (by omega))
 show aO (ez (aT (plT (fl a)) (plT (fl b))) (aT (plT (fl a)) (plT (fl b))) (aT (plT (fl a)) (plT (fl b))) (aT (plT (fl a)) (plT (fl b)))) ⟨#[42]⟩=_
 rw[fZ,Int.min_self,Int.min_self,Int.min_self,Int.max_self,Int.max_self,Int.max_self,oC hz (zA ha hb)]
 rfl
theorem GF {n m X A:Nat} (hm:0<m) (hX:X=n) (h:n≤A*m):2*(X / m)+(if X % m=0 then 0 else 1)≤2*A:=by
 subst hX;have hd:=Nat.div_add_mod X m;have hl:=Nat.mod_lt X hm
 have h1:X / m≤A:=by
  have:=Nat.div_le_div_right (c:=m) h;rwa [Nat.mul_div_cancel _ hm] at this
 by_cases hz:X % m=0
 ·rw[if_pos hz];omega
 ·rw[if_neg hz]
  have:X / m≠A:=by
   intro hc;rw[hc,Nat.mul_comm] at hd;omega
  omega
theorem GB {n m X A:Nat} (hm:0<m) (hX:X=n) (h:A*m≤n):2*A≤2*(X / m)+(if X % m=0 then 0 else 1):=by
 subst hX;have h1:=(Nat.le_div_iff_mul_le hm).2 h;omega
theorem vK {n:Int} (h0:n≠0) (h:n.natAbs≤1152921504606846976) (way:Int):∃m e,plT (wdP (ar (aC n) way))=(decide (n<0),m,e)∧4503599627370496≤m∧m<9007199254740992∧((bl n.natAbs:Nat):Int)-53≤e∧e≤((bl n.natAbs:Nat):Int)-52:=by
 have hn:n.natAbs≠0:=by omega
 have hp:ar (aC n) way=sgI (decide (n<0)) (aX (endR (decide (n<0)) n.natAbs 0 way)):=by unfold ar aC;rw[if_neg hn]
 have hpl:=cG h way;rw[hp] at hpl;obtain⟨a,b,c⟩:=rv _ hpl;have rb:=cJ 0 hn;have eb:=cO (decide (n<0)) (n:=n.natAbs) 0 way;rw[hp,c,rC _ (by omega)];generalize endR (decide (n<0)) n.natAbs 0 way=r at*;have hw:=lM (decide (n<0)) (r:=r.toNat) (by omega) (by omega);refine⟨r.toNat % 4503599627370496+4503599627370496,((r.toNat / 4503599627370496:Nat):Int)-1075,?_,by omega,by omega,by omega,by omega⟩;unfold plT;rw[hw];rfl
theorem FC {m:Nat} (h1:4503599627370496≤m) (h2:m<9007199254740992):bl m=53:=eB h1 h2
def fg (n m:Nat):Nat:=2*(n*2^113 / m)+if n*2^113 % m=0 then 0 else 1
theorem jR {n m:Nat} (h1:4503599627370496≤n) (h2:n<9007199254740992) (h3:4503599627370496≤m) (h4:m<9007199254740992):114≤bl (fg n m)∧bl (fg n m)≤115∧fg n m≠0:=by
 have a1:2^112≤n*2^113 / m:=(Nat.le_div_iff_mul_le (by omega)).2 (by omega);have a2:n*2^113 / m<2^114:=(Nat.div_lt_iff_lt_mul (by omega)).2 (by omega);have hlt:fg n m<2^115:=by unfold fg;split<;>omega
 have hge:2^113≤fg n m:=by unfold fg;split<;>omega
 refine⟨?_,bQ hlt,by omega⟩;apply Decidable.byContradiction;intro hc;have h5:=nu (fg n m);have h6:2^bl (fg n m)≤2^113:=Nat.pow_le_pow_right (by decide) (by omega);omega
theorem o5 {s t:Bool} {n m:Nat} {e f:Int} (h1:4503599627370496≤n) (h2:n<9007199254740992) (h3:4503599627370496≤m) (h4:m<9007199254740992):quoN (s,n,e) (t,m,f)=((s !=t),fg n m,e-113-f-1):=by
 have hb:=(jR h1 h2 h3 h4).2.2;unfold quoN gT;simp only;rw[FC h3 h4];have e1:2*(n*2^(60+53) / m)+(if decide (n*2^(60+53) % m=0)=true then 0 else 1)=fg n m:=by unfold fg;simp
 rw[e1,decide_eq_true hb,Bool.and_true]
 rfl
theorem zL {s t:Bool} {n m:Nat} {e f:Int} (h1:4503599627370496≤n) (h2:n<9007199254740992) (h3:4503599627370496≤m) (h4:m<9007199254740992) (e1:-52≤e) (e2:e≤9) (f1:-52≤f) (f2:f≤9) (way:Int):plP (ar (quoN (s,n,e) (t,m,f)) way)=true:=by
 rw[o5 h1 h2 h3 h4];obtain⟨b1,b2,b3⟩:=jR h1 h2 h3 h4;have hp:ar ((s !=t),fg n m,e-113-f-1) way=sgI (s !=t) (aX (endR (s !=t) (fg n m) (e-113-f-1) way)):=by unfold ar;rw[if_neg b3]
 rw[hp];have rb:=cJ (e-113-f-1) b3;have eb:=cO (s !=t) (n:=fg n m) (e-113-f-1) way;generalize endR (s !=t) (fg n m) (e-113-f-1) way=r at*;have hc:aX r=r:=by have:=cZ r;omega
 rw[hc];unfold plP sgI;rw[decide_eq_true_eq];right
 cases(s !=t)
 ·rw[if_neg Bool.false_ne_true];omega
 ·rw[if_pos rfl];omega
theorem iI {s:Bool} {x y:Nat}:(s=false→(sg s x≤sg s y↔x≤y))∧(s=true→(sg s x≤sg s y↔y≤x)):=by
 unfold sg;constructor
 ·rintro rfl;simp
 ·rintro rfl;simp
theorem vi {a b:Int} {s:Bool} {n m:Nat} {e f:Int} (ha:a≠0) (hb:b≠0) (hs:s=decide (a*b<0)) (h1:4503599627370496≤n) (h2:n<9007199254740992) (h3:4503599627370496≤m) (h4:m<9007199254740992) (e1:-52≤e) (e2:e≤9) (f1:-52≤f) (f2:f≤0) (hG:bj 0 b (decide (b<0),m,f)):
  (leV (s,n,e) (aC (a*b))→(0<b→leV (quoN (s,n,e) (decide (b<0),m,f)) (aC a))∧(b<0→leV (aC a) (quoN (s,n,e) (decide (b<0),m,f))))∧
  (leV (aC (a*b)) (s,n,e)→(0<b→leV (aC a) (quoN (s,n,e) (decide (b<0),m,f)))∧(b<0→leV (quoN (s,n,e) (decide (b<0),m,f)) (aC a))):=by
 have hm:m=b.natAbs*2^(-f).toNat:=by
  have:=hG f (by simp) (by omega);simp only[Int.sub_self,Int.toNat_zero,Nat.pow_zero,Nat.mul_one] at this;have h:=congrArg Int.natAbs this;rw[Int.natAbs_mul,Int.natAbs_natCast] at h;rw[show(sg (decide (b<0)) m).natAbs=m by unfold sg;split<;>omega] at h;rw[h]
  congr 2
  omega
 obtain⟨b1,b2,b3⟩:=jR h1 h2 h3 h4
 have hq:bj (e-113-f-1) (sg (s !=decide (b<0)) (fg n m)) (quoN (s,n,e) (decide (b<0),m,f)):=by
  rw[o5 h1 h2 h3 h4];have:=kE (s:=s !=decide (b<0)) (m:=fg n m) (k:=0) (E:=e-113-f-1);simpa using this
 have hA:bj (e-113-f-1) (a*((2^(0-(e-113-f-1)).toNat:Nat):Int)) (aC a):=fj (jw 0 a) (by omega);have hj:(0-(e-113-f-1)).toNat=(113+f-e).toNat+1:=by omega
 rw[hj,Nat.pow_succ] at hA;generalize hA':a.natAbs*2^(113+f-e).toNat=A' at*
 have hsa:a*((2^(113+f-e).toNat*2:Nat):Int)=sg (s !=decide (b<0)) (2*A'):=by
  have hsg:(s !=decide (b<0))=decide (a<0):=by
   rw[hs];rcases Int.lt_or_gt_of_ne ha with ha'|ha'<;>rcases Int.lt_or_gt_of_ne hb with hb'|hb'
   ·rw[decide_eq_false (Int.not_lt.2 (Int.le_of_lt (Int.mul_pos_of_neg_of_neg ha' hb'))),decide_eq_true hb',decide_eq_true ha'];rfl
   ·rw[decide_eq_true (Int.mul_neg_of_neg_of_pos ha' hb'),decide_eq_false (by omega),decide_eq_true ha'];rfl
   ·rw[decide_eq_true (Int.mul_neg_of_pos_of_neg ha' hb'),decide_eq_true hb',decide_eq_false (by omega)];rfl
   ·rw[decide_eq_false (Int.not_lt.2 (Int.le_of_lt (Int.mul_pos ha' hb'))),decide_eq_false (by omega),decide_eq_false (by omega)];rfl
  rw[hsg,←hA'];generalize 2^(113+f-e).toNat=g;unfold sg;by_cases h:a<0
  ·rw[decide_eq_true h,if_pos rfl];rw[show a=-((a.natAbs:Nat):Int) by omega,Int.natAbs_neg,Int.natAbs_natCast,Int.neg_mul,←Int.natCast_mul]
   congr 2
   rw[Nat.mul_comm g 2,←Nat.mul_assoc,Nat.mul_comm a.natAbs 2,Nat.mul_assoc]
  ·rw[decide_eq_false h,if_neg Bool.false_ne_true];rw[show a=((a.natAbs:Nat):Int) by omega,Int.natAbs_natCast,←Int.natCast_mul]
   congr 1
   rw[Nat.mul_comm g 2,←Nat.mul_assoc,Nat.mul_comm a.natAbs 2,Nat.mul_assoc]
 rw[hsa] at hA
 have hmul:A'*m=(a*b).natAbs*2^(113-e).toNat:=by
  rw[←hA',hm,Int.natAbs_mul];rw[show(113-e).toNat=(113+f-e).toNat+(-f).toNat by omega,Nat.pow_add];generalize 2^(113+f-e).toNat=g;generalize 2^(-f).toNat=h;rw[Nat.mul_assoc,Nat.mul_assoc,←Nat.mul_assoc g,Nat.mul_comm g b.natAbs,Nat.mul_assoc]
 have scale:∀x y:Nat,x*2^(e-min e 0).toNat≤y*2^(0-min e 0).toNat↔x*2^113≤y*2^(113-e).toNat:=by
  intro x y;have k1:x*2^113=x*2^(e-min e 0).toNat*2^(113-e+min e 0).toNat:=by rw[Nat.mul_assoc,←Nat.pow_add];congr 2;omega
  have k2:y*2^(113-e).toNat=y*2^(0-min e 0).toNat*2^(113-e+min e 0).toNat:=by rw[Nat.mul_assoc,←Nat.pow_add];congr 2;omega
  rw[k1,k2];exact⟨fun h=>Nat.mul_le_mul_right _ h,fun h=>Nat.le_of_mul_le_mul_right h (Nat.two_pow_pos _)⟩
 have scale2:∀x y:Nat,y*2^(0-min e 0).toNat≤x*2^(e-min e 0).toNat↔y*2^(113-e).toNat≤x*2^113:=by
  intro x y;have k1:x*2^113=x*2^(e-min e 0).toNat*2^(113-e+min e 0).toNat:=by rw[Nat.mul_assoc,←Nat.pow_add];congr 2;omega
  have k2:y*2^(113-e).toNat=y*2^(0-min e 0).toNat*2^(113-e+min e 0).toNat:=by rw[Nat.mul_assoc,←Nat.pow_add];congr 2;omega
  rw[k1,k2];exact⟨fun h=>Nat.mul_le_mul_right _ h,fun h=>Nat.le_of_mul_le_mul_right h (Nat.two_pow_pos _)⟩
 have mle:=fun(h:n*2^113≤A'*m)=>GF (by omega) rfl h
 have mge:=fun(h:A'*m≤n*2^113)=>GB (by omega) rfl h
 have c0:leV (s,n,e) (aC (a*b))→(s=false→n*2^113≤A'*m)∧(s=true→A'*m≤n*2^113):=by
  intro h;unfold leV lvA lvB aC at h;simp only at h;rw[←hs] at h;rw[hmul];exact⟨fun hf=>(scale _ _).1 ((iI.1 hf).1 h),fun ht=>(scale2 _ _).1 ((iI.2 ht).1 h)⟩
 have c1:leV (aC (a*b)) (s,n,e)→(s=false→A'*m≤n*2^113)∧(s=true→n*2^113≤A'*m):=by
  intro h;unfold leV lvA lvB aC at h;simp only at h;rw[←hs,show min (0:Int) e=min e 0 by omega] at h;rw[hmul];exact⟨fun hf=>(scale2 _ _).1 ((iI.1 hf).1 h),fun ht=>(scale _ _).1 ((iI.2 ht).1 h)⟩
 clear scale scale2 hmul hsa hj hA' hm hG hs;constructor
 ·intro h;obtain⟨d1,d2⟩:=c0 h;constructor
  ·intro hb';refine bY hq hA ?_;rw[decide_eq_false (by omega),Bool.bne_false]
   cases s
   ·exact(iI.1 rfl).2 (mle (d1 rfl))
   ·exact(iI.2 rfl).2 (mge (d2 rfl))
  ·intro hb';refine bY hA hq ?_;rw[decide_eq_true hb']
   cases s
   ·exact(iI.2 rfl).2 (mle (d1 rfl))
   ·exact(iI.1 rfl).2 (mge (d2 rfl))
 ·intro h;obtain⟨d1,d2⟩:=c1 h;constructor
  ·intro hb';refine bY hA hq ?_;rw[decide_eq_false (by omega),Bool.bne_false]
   cases s
   ·exact(iI.1 rfl).2 (mge (d1 rfl))
   ·exact(iI.2 rfl).2 (mle (d2 rfl))
  ·intro hb';refine bY hq hA ?_;rw[decide_eq_true hb']
   cases s
   ·exact(iI.2 rfl).2 (mge (d1 rfl))
   ·exact(iI.1 rfl).2 (mle (d2 rfl))
theorem rP {e z:Int} {x x':ap} (h:bj e z x) (h':bj e z x') (y:ap):lessT x y=lessT x' y∧lessT y x=lessT y x':=by
 have hy:=bk y (e:=min e y.2.2) (by omega);have a:=fj h (c:=min e y.2.2) (by omega);have b:=fj h' (c:=min e y.2.2) (by omega);have l1:=dw a hy;have l2:=dw b hy;have l3:=dw hy a;have l4:=dw hy b;exact⟨Bool.eq_iff_iff.2 (l1.trans l2.symm),Bool.eq_iff_iff.2 (l3.trans l4.symm)⟩
theorem zt:fl 0=0:=rfl
theorem zJ:fh 0=0:=rfl
theorem FM (x y:ap):refOpN 6 x y (plT (fl 0)) (plT (fh 0))=(0,0,4,⟨#[47]⟩):=by
 rw[zt,zJ,kV]
 rfl
theorem Fv {n:Int} (h:n.natAbs≤1152921504606846976):aW (fl n)=ar (aC n) (-1):=(oE (cG h _)).pos
theorem DA (x y:ap):ez x x y y=boxP (min (ar x (-1)) (ar y (-1))) (max (ar x 1) (ar y 1)):=by
 rw[fZ]
 congr 1<;>omega
theorem mP (x y:ap):∃z,(z=x∨z=y)∧min (ar x (-1)) (ar y (-1))=ar z (-1):=by
 rcases Int.le_total (ar x (-1)) (ar y (-1)) with h|h
 ·exact⟨x,.inl rfl,by omega⟩
 ·exact⟨y,.inr rfl,by omega⟩
theorem mX (x y:ap):∃z,(z=x∨z=y)∧max (ar x 1) (ar y 1)=ar z 1:=by
 rcases Int.le_total (ar x 1) (ar y 1) with h|h
 ·exact⟨y,.inr rfl,by omega⟩
 ·exact⟨x,.inl rfl,by omega⟩
theorem Hu {a b:Int} (ha:a.natAbs≤1073741824) (hb:b.natAbs≤1073741824) (hb0:b≠0):
  ∃l h,refOpN 6 (plT (fl (a*b))) (plT (fh (a*b))) (plT (fl b)) (plT (fh b))=(l,h,0,⟨#[]⟩)∧Iv l h∧lessT (aC a) (plT l)=false∧lessT (plT h) (aC a)=false:=by
 have hsb:=(dN (n:=b) (by omega)).1;obtain⟨m,f,hG,m1,m2,f1,f2⟩:=vK hb0 (by omega) (-1);have hG':plT (fl b)=(decide (b<0),m,f):=hG;have hMG:=fW (n:=b) (by omega);rw[hG'] at hMG;have hblb:bl b.natAbs≤31:=bQ (Nat.lt_of_le_of_lt hb (by decide));have hblb1:=eK (n:=b.natAbs) (by omega)
 have hz:holdsT (plT (fl b)) (plT (fh b))=false:=by
  rw[hsb,hG'];unfold holdsT sgnI;simp only;rw[if_neg (by omega)]
  cases decide (b<0)<;>rfl
 have hun:refOpN 6 (plT (fl (a*b))) (plT (fh (a*b))) (plT (fl b)) (plT (fh b))=aO (ez (quoN (plT (fl (a*b))) (plT (fl b))) (quoN (plT (fl (a*b))) (plT (fh b))) (quoN (plT (fh (a*b))) (plT (fl b))) (quoN (plT (fh (a*b))) (plT (fh b)))) ⟨#[47]⟩:=by
  show(if holdsT (plT (fl b)) (plT (fh b))=true then _ else _)=_
  rw[hz,if_neg Bool.false_ne_true]
 rw[hun,hsb,hG',DA];have hwa:a.natAbs≤1152921504606846976:=by omega
 have hma:bj 0 a (aC a):=jw 0 a;have hmf:=fW (n:=a) (by omega);have hsa:=dN (n:=a) (by omega);have iva:Iv (fl a) (fl a):=(Dq hwa).low;have hpf:=Fv hwa;by_cases ha0:a=0
 ·subst ha0;rw[Int.zero_mul,zt,zJ,kV]
  have hq:∀way,ar (quoN (false,0,0) (decide (b<0),m,f)) way=0:=by
   intro way;unfold ar quoN gT;simp
  rw[hq,hq];exact⟨0,0,rfl,⟨by omega,by omega,by omega,by omega,rfl,rfl,Int.le_refl _⟩,nB _,nB _⟩
 ·have hab0:a*b≠0:=fun h=>by rcases Int.mul_eq_zero.1 h with h|h<;>contradiction
  have hab:=zA ha hb;have hbl:bl (a*b).natAbs≤61:=bQ (Nat.lt_of_le_of_lt hab (by decide));have hbl1:=eK (n:=(a*b).natAbs) (by omega);obtain⟨n,e,hL,n1,n2,e1,e2⟩:=vK hab0 hab (-1);obtain⟨n',e',hH,n1',n2',e1',e2'⟩:=vK hab0 hab 1;have hL':plT (fl (a*b))=(decide (a*b<0),n,e):=hL;have hH':plT (fh (a*b))=(decide (a*b<0),n',e'):=hH;have lL:leV (decide (a*b<0),n,e) (aC (a*b)):=by rw[←hL'];exact qQ (cG hab _)
  have lH:leV (aC (a*b)) (decide (a*b<0),n',e'):=by rw[←hH'];exact oG (cG hab _)
  have cL:=(vi ha0 hb0 rfl n1 n2 m1 m2 (by omega) (by omega) (by omega) (by omega) hMG).1 lL;have cH:=(vi ha0 hb0 rfl n1' n2' m1 m2 (by omega) (by omega) (by omega) (by omega) hMG).2 lH;have pL:∀way,plP (ar (quoN (decide (a*b<0),n,e) (decide (b<0),m,f)) way)=true:=fun way=>zL n1 n2 m1 m2 (by omega) (by omega) (by omega) (by omega) way
  have pH:∀way,plP (ar (quoN (decide (a*b<0),n',e') (decide (b<0),m,f)) way)=true:=fun way=>zL n1' n2' m1 m2 (by omega) (by omega) (by omega) (by omega) way
  rw[hL',hH'];generalize quoN (decide (a*b<0),n,e) (decide (b<0),m,f)=x at*;generalize quoN (decide (a*b<0),n',e') (decide (b<0),m,f)=y at*
  have hlo:min (ar x (-1)) (ar y (-1))≤ar (aC a) (-1):=by
   rcases Int.lt_or_gt_of_ne hb0 with hb'|hb'
   ·have:=cj (-1) (.inl rfl) (cH.2 hb');omega
   ·have:=cj (-1) (.inl rfl) (cL.1 hb');omega
  have hhi:ar (aC a) 1≤max (ar x 1) (ar y 1):=by
   rcases Int.lt_or_gt_of_ne hb0 with hb'|hb'
   ·have:=cj 1 (.inr rfl) (cL.2 hb');omega
   ·have:=cj 1 (.inr rfl) (cH.1 hb');omega
  have hxy:min (ar x (-1)) (ar y (-1))≤max (ar x 1) (ar y 1):=by have:=iX x;omega
  obtain⟨u,hu,eu⟩:=mP x y;obtain⟨v,hv,ev⟩:=mX x y;rw[eu] at hlo hxy⊢;rw[ev] at hhi hxy⊢;have pu:plP (ar u (-1))=true:=by rcases hu with rfl|rfl;exact pL _;exact pH _
  have pv:plP (ar v 1)=true:=by rcases hv with rfl|rfl;exact pL _;exact pH _
  have iv:=rM pu pv hxy;refine⟨wdP (ar u (-1)),wdP (ar v 1),by rw[fq pu pv];rfl,iv,?_,?_⟩
  ·rw[(rP hma hmf _).1,dX iva iv.low];refine decide_eq_false ?_;rw[(oE pu).pos,hpf];omega
  ·rw[(rP hma hmf _).2,dX iv iva];refine decide_eq_false ?_;rw[(oE pv).pos,hpf];have:=hsa.2;omega
def fR (x1 x2:ap) (q:Nat) (r:Nat×Nat×Nat×ByteArray):Nat×Nat×Nat×ByteArray:=
 if r.2.2.1≠0 then r
 else if(refOpN 5 (plT r.1) (plT r.2.1) x1 x2).2.2.1≠0 then refOpN 5 (plT r.1) (plT r.2.1) x1 x2
 else refOpN 3 (plT (refOpN 5 (plT r.1) (plT r.2.1) x1 x2).1) (plT (refOpN 5 (plT r.1) (plT r.2.1) x1 x2).2.1) (plT q) (plT q)
def hornN (ps:Nat→Nat) (n:Nat) (x1 x2:ap):Nat→Nat×Nat×Nat×ByteArray
 |0=>(posW (ps (n-1)),posW (ps (n-1)),0,⟨#[]⟩)
 |j+1=>fR x1 x2 (posW (ps (n-2-j))) (hornN ps n x1 x2 j)
def rightN (ps:Nat→Nat) (n:Nat):Nat:=
 if n<1∨9<n then 8 else if(List.range n).all (fun i=>(au (ps i)).isSome) then 0 else 1
def bE (ps:Nat→Nat) (n:Nat) (x1 x2:ap):Nat×Nat×Nat×ByteArray:=
 if rightN ps n≠0 then(0,0,rightN ps n,⟨#[]⟩) else hornN ps n x1 x2 (n-1)
theorem Cn {p q:Int} (h:(boxP p q).2.2=0):plP p=true∧plP q=true:=by
 unfold boxP at h;split at h
 ·assumption
 ·cases h
theorem pj {p q:Int} {s:ByteArray} (h:(aO (boxP p q) s).2.2.1=0):plP p=true∧plP q=true∧aO (boxP p q) s=(wdP p,wdP q,0,⟨#[]⟩):=by
 have hc:(boxP p q).2.2=0:=by
  unfold aO at h;split at h
  ·assumption
  ·exact h
 obtain⟨h1,h2⟩:=Cn hc;refine⟨h1,h2,?_⟩;rw[fq h1 h2]
 rfl
theorem uw (p q:Int) (s:ByteArray) (h:(aO (boxP p q) s).2.2.1≠0):(aO (boxP p q) s).1=0∧(aO (boxP p q) s).2.1=0:=by
 unfold aO at h⊢;split at h
 ·simp at h
 ·rename_i h'
  rw[if_neg h'];exact⟨rfl,rfl⟩
theorem Cd (a b c d:ap):∃z,min (min (min (ar a (-1)) (ar b (-1))) (ar c (-1))) (ar d (-1))=ar z (-1):=by
 obtain⟨u,_,e1⟩:=mP a b;obtain⟨v,_,e2⟩:=mP u c;obtain⟨z,_,e3⟩:=mP v d;exact⟨z,by rw[e1,e2,e3]⟩
theorem Bp (a b c d:ap):∃z,max (max (max (ar a 1) (ar b 1)) (ar c 1)) (ar d 1)=ar z 1:=by
 obtain⟨u,_,e1⟩:=mX a b;obtain⟨v,_,e2⟩:=mX u c;obtain⟨z,_,e3⟩:=mX v d;exact⟨z,by rw[e1,e2,e3]⟩
theorem wX {a1 a2 b1 b2:ap} (h:(refOpN 5 a1 a2 b1 b2).2.2.1=0):Iv (refOpN 5 a1 a2 b1 b2).1 (refOpN 5 a1 a2 b1 b2).2.1:=by
 have e:refOpN 5 a1 a2 b1 b2=aO (ez (aT a1 b1) (aT a1 b2) (aT a2 b1) (aT a2 b2)) ⟨#[42]⟩:=rfl;rw[e,fZ] at h⊢;obtain⟨u,eu⟩:=Cd (aT a1 b1) (aT a1 b2) (aT a2 b1) (aT a2 b2);obtain⟨v,ev⟩:=Bp (aT a1 b1) (aT a1 b2) (aT a2 b1) (aT a2 b2)
 have hle:ar u (-1)≤ar v 1:=by
  rw[←eu,←ev];have:=iX (aT a1 b1);omega
 rw[eu,ev] at h⊢;obtain⟨h1,h2,h3⟩:=pj h;rw[h3];exact rM h1 h2 hle
theorem rj {l h:Nat} (i:Iv l h):leV (plT l) (plT h):=by
 refine(gl (plT h) (plT l)).2 ?_;rw[dX i i.low];exact decide_eq_false (by have:=i.le;omega)
theorem jr {x y:ap} (h:leV x y) {e:Int} (h1:e≤x.2.2) (h2:e≤y.2.2):sg x.1 (x.2.1*2^(x.2.2-e).toNat)≤sg y.1 (y.2.1*2^(y.2.2-e).toNat):=by
 unfold leV lvA lvB at h;have hm:=Int.mul_le_mul_of_nonneg_right h (Int.natCast_nonneg (2^(min x.2.2 y.2.2-e).toNat));rw[bG,bG,Nat.mul_assoc,Nat.mul_assoc,←Nat.pow_add,←Nat.pow_add] at hm;rwa [show(x.2.2-min x.2.2 y.2.2).toNat+(min x.2.2 y.2.2-e).toNat=(x.2.2-e).toNat by omega,show(y.2.2-min x.2.2 y.2.2).toNat+(min x.2.2 y.2.2-e).toNat=(y.2.2-e).toNat by omega] at hm
theorem Ds {a1 a2 b1 b2:ap} (ha:leV a1 a2) (hb:leV b1 b2):leV (sumT a1 b1) (sumT a2 b2):=by
 have e1:min (min a1.2.2 a2.2.2) (min b1.2.2 b2.2.2)≤a1.2.2:=by omega
 have e2:min (min a1.2.2 a2.2.2) (min b1.2.2 b2.2.2)≤a2.2.2:=by omega
 have e3:min (min a1.2.2 a2.2.2) (min b1.2.2 b2.2.2)≤b1.2.2:=by omega
 have e4:min (min a1.2.2 a2.2.2) (min b1.2.2 b2.2.2)≤b2.2.2:=by omega
 have m1:=bk a1 e1;have m2:=bk a2 e2;have m3:=bk b1 e3;have m4:=bk b2 e4;have l1:=jr ha e1 e2;have l2:=jr hb e3 e4;exact bY (dx m1 m3) (dx m2 m4) (by omega)
theorem Gw {a1 a2 b1 b2:ap} (ha:leV a1 a2) (hb:leV b1 b2) (h:(refOpN 3 a1 a2 b1 b2).2.2.1=0):Iv (refOpN 3 a1 a2 b1 b2).1 (refOpN 3 a1 a2 b1 b2).2.1:=by
 have e:refOpN 3 a1 a2 b1 b2=aO (az (sumT a1 b1) (sumT a2 b2)) ⟨#[43]⟩:=rfl;rw[e,bP] at h⊢;have hle:=Int.le_trans (cj (-1) (.inl rfl) (Ds ha hb)) (iX _);obtain⟨h1,h2,h3⟩:=pj h;rw[h3];exact rM h1 h2 hle
theorem Eo {a1 a2 b1 b2:ap} (h:(refOpN 5 a1 a2 b1 b2).2.2.1≠0):(refOpN 5 a1 a2 b1 b2).1=0∧(refOpN 5 a1 a2 b1 b2).2.1=0:=by
 have e:refOpN 5 a1 a2 b1 b2=aO (ez (aT a1 b1) (aT a1 b2) (aT a2 b1) (aT a2 b2)) ⟨#[42]⟩:=rfl;rw[e,fZ] at h⊢;exact uw _ _ _ h
theorem Eh {a1 a2 b1 b2:ap} (h:(refOpN 3 a1 a2 b1 b2).2.2.1≠0):(refOpN 3 a1 a2 b1 b2).1=0∧(refOpN 3 a1 a2 b1 b2).2.1=0:=by
 have e:refOpN 3 a1 a2 b1 b2=aO (az (sumT a1 b1) (sumT a2 b2)) ⟨#[43]⟩:=rfl;rw[e,bP] at h⊢;exact uw _ _ _ h
theorem kT {b:Nat} (hb:b<18446744073709551616) (hp:(au b).isSome=true):Iv (posW b) (posW b):=(tB hb (cC hp)).1
theorem dR {ps:Nat→Nat} {n:Nat} (h:rightN ps n=0):1≤n∧n≤9∧∀i,i<n→(au (ps i)).isSome=true:=by
 unfold rightN at h;split at h
 ·cases h
 ·split at h
  ·rename_i h1 h2
   refine⟨by omega,by omega,fun i hi=>?_⟩;rw[List.all_eq_true] at h2;exact h2 i (List.mem_range.2 hi)
  ·cases h
theorem pK {ps:Nat→Nat} {n:Nat} {x1 x2:ap} (hr:rightN ps n=0) (hb:∀i,i<n→ps i<18446744073709551616):∀j,j<n→((hornN ps n x1 x2 j).2.2.1=0→Iv (hornN ps n x1 x2 j).1 (hornN ps n x1 x2 j).2.1)∧((hornN ps n x1 x2 j).2.2.1≠0→(hornN ps n x1 x2 j).1=0∧(hornN ps n x1 x2 j).2.1=0)
 |0,hj=>by
  obtain⟨h1,h2,h3⟩:=dR hr;exact⟨fun _=>kT (hb _ (by omega)) (h3 _ (by omega)),fun h=>absurd rfl h⟩
 |j+1,hj=>by
  obtain⟨h1,h2,h3⟩:=dR hr;obtain⟨i1,i2⟩:=pK (x1:=x1) (x2:=x2) hr hb j (by omega);have ip:=kT (hb (n-2-j) (by omega)) (h3 (n-2-j) (by omega));have e:hornN ps n x1 x2 (j+1)=fR x1 x2 (posW (ps (n-2-j))) (hornN ps n x1 x2 j):=rfl;rw[e];generalize hornN ps n x1 x2 j=r at*;unfold fR;by_cases hc:r.2.2.1≠0
  ·rw[if_pos hc];exact⟨i1,i2⟩
  ·rw[if_neg hc];by_cases hm:(refOpN 5 (plT r.1) (plT r.2.1) x1 x2).2.2.1≠0
   ·rw[if_pos hm];exact⟨fun h=>absurd h hm,fun h=>Eo h⟩
   ·rw[if_neg hm];have im:=wX (Decidable.not_not.1 hm);exact⟨fun h=>Gw (rj im) (rj ip) h,fun h=>Eh h⟩
end
section
open Go.RowKit Go.Extern
theorem ud {ps:Nat→Nat} {n:Nat} (h1:1≤n) (h2:n≤9) (h:∀i,i<n→(au (ps i)).isSome=true):rightN ps n=0:=by
 unfold rightN;rw[if_neg (by omega),if_pos];rw[List.all_eq_true];intro i hi;exact h i (List.mem_range.1 hi)
theorem t6 {ps:Nat→Nat} {n i:Nat} (h1:1≤n) (h2:n≤9) (hi:i<n) (h:(au (ps i)).isSome=false):rightN ps n=1:=by
 unfold rightN;rw[if_neg (by omega),if_neg];rw[List.all_eq_true];intro hc;have:=hc i (List.mem_range.2 hi);rw[h] at this
 cases this
theorem qg {ps:Nat→Nat} {n:Nat} (h:n<1∨9<n):rightN ps n=8:=by
 unfold rightN;rw[if_pos h]
theorem um (ao:Option Addr) (n c:Nat) (ps:Nat→Nat) (w:World) (h:WdV w ao n ps) (hn:n*8≤140737488355328):
  aw 80 #[.slice ao n c] w (iV (rightN ps n:Int)):=by
 by_cases hs:n<1∨9<n
 ·rw[qg hs];rcases hs with hs|hs
  ·obtain rfl:n=0:=by omega
   go_enter Tryz.func80,Tryz.ntmps80;go_wp2
   go_ret
   exact⟨rfl,Below.refl _ _⟩
  ·have h9:(9:Int)<n:=by omega
   have h1:¬(n:Int)<1:=by omega
   clear h;go_enter Tryz.func80,Tryz.ntmps80;go_wp2
   go_ret
   exact⟨rfl,Below.refl _ _⟩
 ·have h9:¬(9:Int)<n:=by omega
  have h1:¬(n:Int)<1:=by omega
  have HW:=hid h;have hn1:1≤n:=by omega
  have hn9:n≤9:=by omega
  clear h hs;go_enter Tryz.func80,Tryz.ntmps80;go_wp2
  go_loopw [3,4,5] (fun x _ _ wr=>∃i:Nat,i≤n∧x=iV (i:Int)∧(∀j,j<i→(au (ps j)).isSome=true)∧Below w.heap.size w wr) (fun x _ _ _=>n-(intOf x).toNat)
  case atStart=>exact⟨0,Nat.zero_le _,rfl,fun j hj=>by omega,Below.refl _ _⟩
  case round=>
   obtain⟨i,hi1,rfl,hall,hb⟩:=hrel;by_cases hin:i<n
   ·obtain⟨g,off,rfl,hg,hc⟩:=HW.out.2.resolve_left (by omega);have hci:=hc i hin;rw[←hb.cell (by exact hg)] at hci;have hlt:=HW.out.1 i hin;have Hb:=hid hb;have HA:=hid hall;clear hc hb hall;go_wp2_with fail;refine (gv (ps i) _ hlt).mono ?_;rintro e w1 ⟨x,rfl,⟨xo,xn,xc,rfl,-,-⟩,hb1⟩;have HB1:=hid (Hb.out.trans (hb1.mono Hb.out.size));clear hb1 Hb hci hlt
    cases hp:(au (ps i)).isSome
    ·have HR:=hid (t6 hn1 hn9 hin hp);clear hp HA;go_wp2
     go_ret
     rw[HR.out];exact⟨rfl,HB1.out.alloc HB1.out.size _⟩
    ·have HA':Hid (∀j,j<i+1→(au (ps j)).isSome=true):=fun j hj=>by
      by_cases h:j<i
      ·exact HA.out j h
      ·rw[show j=i by omega];exact hp
     clear hp HA;go_wp2;go_roundw
     case rel=>exact⟨i+1,by omega,by go_num,HA'.out,HB1.out.alloc HB1.out.size _⟩
     case measure=>simp[intOf];omega
   ·have e:i=n:=by omega
    subst e;have HR:=hid (ud hn1 hn9 hall);clear hall;go_wp2
    go_ret
    rw[HR.out];exact⟨rfl,hb⟩
theorem tP (A:Nat→Addr) (ao:Option Addr) (n c:Nat) (ps:Nat→Nat) (w:World) (hS:aE A w) (h:FlV w ao n ps) (hp:∀i,i<n→ps i<18446744073709551616) (hn:n*8≤140737488355328):
  ax 102 #[.slice ao n c] w fun e w'=>∃v,e= .returned v∧aR A w' v (rightN ps n) ⟨#[]⟩∧Below w.heap.size w w':=by
 by_cases hs:n<1∨9<n
 ·rw[qg hs];have c2:w.cell? ⟨7,0,none⟩=some (aL (A 7)):=hS.cell 7 (by omega);have HR:Hid (∀w',aR A w' (aL (A 7)) 8 ⟨#[]⟩):=fun w'=>aR.one 7 (by omega)
  clear h hp hS;rcases hs with hs|hs
  ·obtain rfl:n=0:=by omega
   go_enter Tryz.func102,Tryz.ntmps102;go_wp2
   go_ret
   exact⟨_,rfl,HR.out _,Below.refl _ _⟩
  ·have h9:(9:Int)<n:=by omega
   have h1:¬(n:Int)=0:=by omega
   go_enter Tryz.func102,Tryz.ntmps102;go_wp2
   go_ret
   exact⟨_,rfl,HR.out _,Below.refl _ _⟩
 ·have h9:¬(9:Int)<n:=by omega
  have h1:¬(n:Int)=0:=by omega
  have HW:=hid h;have HP:=hid hp;have HS:Hid (aE A w):=hS;have hn1:1≤n:=by omega
  have hn9:n≤9:=by omega
  clear h hs hp hS;go_enter Tryz.func102,Tryz.ntmps102;go_wp2
  go_loopw [4,16] (fun _ x wr=>∃i:Nat,i≤n∧x=iV (i:Int)∧(∀j,j<i→(au (ps j)).isSome=true)∧Below w.heap.size w wr) (fun _ x _=>n-(intOf x).toNat)
  case atStart=>exact⟨0,Nat.zero_le _,rfl,fun j hj=>by omega,Below.refl _ _⟩
  case round=>
   obtain⟨i,hi1,rfl,hall,hb⟩:=hrel;by_cases hin:i<n
   ·obtain⟨g,off,rfl,hg,hc⟩:=HW.out.resolve_left (by omega);have hci:=hc i hin;rw[←hb.cell (by exact hg)] at hci;have HL:Hid (ps i<18446744073709551616):=HP.out i hin;have Hb:Hid (Below w.heap.size w wr):=hb;have HA:Hid (∀j,j<i→(au (ps j)).isSome=true):=hall;clear hc hb hall;go_wp2_with fail;refine (fG (ps i) _ HL.out).mono ?_;rintro e w1 ⟨rfl,rfl⟩;clear hci
    cases hp:(au (ps i)).isSome
    ·have HR:Hid (rightN ps n=1):=t6 hn1 hn9 hin hp;have c2:w1.cell? ⟨3,0,none⟩=some (aL (A 0)):=(HS.out.below Hb.out ae).cell 0 (by omega);clear hp HA;go_wp2
     go_ret
     rw[HR.out];exact⟨_,rfl,aR.one 0 (by omega),Hb.out⟩
    ·have HA':Hid (∀j,j<i+1→(au (ps j)).isSome=true):=fun j hj=>by
      by_cases h:j<i
      ·exact HA.out j h
      ·rw[show j=i by omega];exact hp
     clear hp HA;go_wp2;go_roundw
     case rel=>exact⟨i+1,by omega,by go_num,HA'.out,Hb.out⟩
     case measure=>simp[intOf];omega
   ·have e:i=n:=by omega
    subst e;have HR:=hid (ud hn1 hn9 hall);clear hall;go_wp2
    go_ret
    rw[HR.out];exact⟨_,rfl,.nil,hb⟩
theorem AH (b:Nat) (w:World) (hb:b<18446744073709551616):aw 81 #[nV b] w (.agg #[uV (posW b:Int),uV (posW b:Int)]):=by
 have HP:=hid (fun(W:World)=>lI b W hb);clear hb;generalize posW b=q at*;go_enter Tryz.func81,Tryz.ntmps81;go_wp2_with fail;refine (HP.out _).mono ?_;rintro e w1 ⟨rfl,rfl⟩;go_wp2_with fail;refine (HP.out _).mono ?_;rintro e w1 ⟨rfl,rfl⟩;go_wp2_with fail;refine bodyPost_ret (v:=gU q q) (by simp[results,Tryz.results81,go_sem]) rfl ?_;exact⟨rfl,aK.alloc ae _⟩
attribute [local go_sem] av
theorem rG (b:Nat) (w:World) (hb:b<18446744073709551616) (hp:(au b).isSome=true):aw 167 #[fV b] w (.agg #[fV (posW b),fV (posW b)]):=by
 have HP:=hid (fun(W:World)=>iD b W hb hp);clear hb hp;generalize posW b=q at*;go_enter Tryz.func167,Tryz.ntmps167;go_wp2_with fail;refine (HP.out _).mono ?_;rintro e w1 ⟨rfl,rfl⟩;go_wp2_with fail;refine (HP.out _).mono ?_;rintro e w1 ⟨rfl,rfl⟩;go_wp2_with fail;refine bodyPost_ret (v:=gF q q) (by simp[results,Tryz.results167,go_sem]) rfl ?_;exact⟨rfl,aK.alloc ae _⟩
end
section
open Go.RowKit Go.Extern Ieee
def jj (ps:Nat→Nat) (n l h:Nat):Bool:=
 decide ((bE ps n (plT l) (plT h)).2.2.1=0) &&!holdsT (plT (bE ps n (plT l) (plT h)).1) (plT (bE ps n (plT l) (plT h)).2.1)
def jF (l h:Nat):Bool:=(midT l h).2 &&(decide (aW l<aW (midT l h).1) && decide (aW (midT l h).1<aW h))
def be (ps:Nat→Nat) (n:Nat):Nat→Nat→Nat→List (Nat×Nat)
 |0,l,h=>if jj ps n l h=true then[] else[(l,h)]
 |d+1,l,h=>if jj ps n l h=true then[] else if jF l h=true then be ps n d l (midT l h).1++be ps n d (midT l h).1 h else[(l,h)]
theorem ig (ps:Nat→Nat) (n:Nat):∀d l h,(be ps n d l h).length≤2^d
 |0,l,h=>by unfold be;split<;>simp
 |d+1,l,h=>by
  unfold be;have h1:=ig ps n d l (midT l h).1;have h2:=ig ps n d (midT l h).1 h;have hp:=Nat.two_pow_pos d;rw[Nat.pow_succ];split
  ·simp
  ·split
   ·rw[List.length_append];omega
   ·simp;omega
theorem xg {b:Nat} {x:ap} (hb:b<18446744073709551616) (hz:b≠9223372036854775808) (h:au b=some x):cS x.1 x.2.1 x.2.2=(b,true):=by
 unfold au at h;split at h
 ·rename_i h0
  cases h
  have:b=0:=by omega
  subst this
  rfl
 ·rename_i h0
  split at h
  ·cases h
  ·rename_i h1
   cases h
   simp only;have n1:4503599627370496≤b % 4503599627370496+4503599627370496:=by omega
   have n2:b % 4503599627370496+4503599627370496<9007199254740992:=by omega
   have hbl:=eB n1 n2;unfold cS;rw[if_neg (by omega),if_pos (by omega),hbl,Nat.sub_self,Nat.pow_zero,Nat.mul_one,hU _ n1 n2];unfold jp;rw[if_pos (by omega)]
   congr 1
   by_cases hs:b / 9223372036854775808=1
   ·rw[decide_eq_true hs,if_pos rfl];omega
   ·rw[decide_eq_false hs,if_neg Bool.false_ne_true];omega
theorem Df {l h:Nat} (i:Iv l h) (hc:jF l h=true):Iv l (midT l h).1∧Iv (midT l h).1 h∧il l h=(midT l h).1:=by
 unfold jF at hc;rw[Bool.and_eq_true,Bool.and_eq_true,decide_eq_true_eq,decide_eq_true_eq] at hc;obtain⟨h1,h2,h3⟩:=hc;obtain⟨a,b⟩:=jO i;obtain⟨e,f⟩:=b h1;rw[h1] at a;rw[e] at a f;have hp:=cC a;exact⟨⟨i.lt1,f.lt,i.z1,f.nz,i.p1,hp,by omega⟩,⟨f.lt,i.lt2,f.nz,i.z2,hp,i.p2,by omega⟩,e⟩
end
end Go.Proofs.YtonhpkigoplmaaaGreatDoor
