import Derived.Test.YtonhpkigoplmaaaGreatDoorZ28
set_option maxRecDepth 100000
set_option maxHeartbeats 40000000
namespace Go.Proofs.YtonhpkigoplmaaaGreatDoor
section
open Go.RowKit Go.Extern Ieee
theorem Ge:aF 4472074429978902528=pw (-30):=by
 have h:plT 4472074429978902528=(false,4503599627370496,-82):=rfl;unfold aF;rw[h];have h2:=eU 52;rw[show((52:Nat):Int)=52 by rfl,show(2^52:Nat)=4503599627370496 by decide] at h2;have h3:=bT 52 (-82);rw[show(52:Int)+-82=-30 by rfl] at h3;rw[h3,h2];unfold aI sg;simp only[Bool.false_eq_true,if_false];rw[Rat.intCast_natCast]
theorem FH:aF 4742290407621132288=pw 30:=by
 have h:plT 4742290407621132288=(false,4503599627370496,-22):=rfl;unfold aF;rw[h];have h2:=eU 52;rw[show((52:Nat):Int)=52 by rfl,show(2^52:Nat)=4503599627370496 by decide] at h2;have h3:=bT 52 (-22);rw[show(52:Int)+-22=30 by rfl] at h3;rw[h3,h2];unfold aI sg;simp only[Bool.false_eq_true,if_false];rw[Rat.intCast_natCast]
theorem sB {x:Nat} (hx:x<18446744073709551616) (hp:au x=some (plT x)):reachW x=fairT (plT x):=by
 obtain⟨h1,h2⟩:=dT hx hp;have q1:=kY (x:=4472074429978902528) (y:=absW x) (by unfold PlA;omega) h1;have q2:=kY (x:=absW x) (y:=4742290407621132288) h1 (by unfold PlA;omega);have q3:=kY (x:=absW x) (y:=0) h1 (by unfold PlA;omega);rw[h2,Ge] at q1;rw[h2,FH] at q2;rw[h2,show aF 0=0 from dH rfl] at q3;unfold reachW fairT;rw[show aI (plT x)=aF x from rfl]
 have e3:absW x=0↔aF x=0:=by
  constructor
  ·intro h;have:=q3.2 (by omega);rcases bw (aF x) with⟨_,_⟩|⟨_,_⟩<;>grind
  ·intro h;have:=q3.1 (by rw[h,fO];grind);omega
 rw[decide_eq_decide.2 e3,decide_eq_decide.2 q1,decide_eq_decide.2 q2]
theorem oj {n:Nat} (hn:n≤4) {M:Nat→Nat→Nat×Nat} {z g:Nat→Nat×Nat} {R:Nat→Nat→Rat} (h:dC muX suX quX pvX n M z=some g) (iv:∀y x,y<n→x≤n→ivW (M y x)) (mem:∀y x,y<n→x≤n→cn (M y x) (R y x)):
  detR n R≠0∧∀i,i<n→ivW (g i)∧cn (g i) (detR n (eh R (fun y=>R y n) i) / detR n R):=by
 have:=As zC hn h (fun y x hy hx=>⟨iv y x hy hx,mem y x hy hx⟩);exact⟨this.1,fun i hi=>this.2 i hi⟩
theorem GA {lo hi x d:Rat} (hd:d≠0) (h1:lo≤x / d) (h2:x / d≤hi):(0<d→lo*d≤x∧x≤hi*d)∧(d<0→hi*d≤x∧x≤lo*d):=by
 have e:x / d*d=x:=by rw[Rat.div_def,Rat.mul_assoc,Rat.inv_mul_cancel _ hd,Rat.mul_one]
 generalize x / d=t at*;constructor
 ·intro hp;have a:=bu (Rat.le_of_lt hp) h1;have b:=bu (Rat.le_of_lt hp) h2;grind
 ·intro hp;have hp':(0:Rat)≤-d:=by grind
  have a:=bu hp' h1;have b:=bu hp' h2;grind
def oR:Nat→(Nat→Rat)→Rat
 |0,_=>0
 |n+1,f=>if oR n f≤f n then f n else oR n f
theorem zc {f:Nat→Rat}:∀{n i:Nat},i<n→f i≤oR n f
 |0,i,h=>by omega
 |n+1,i,h=>by
  unfold oR;by_cases hi:i=n
  ·subst hi;split<;>grind
  ·have:=zc (f:=f) (n:=n) (i:=i) (by omega);split<;>grind
theorem tH {f:Nat→Rat}:∀n:Nat,oR n f=0∨∃i,i<n∧oR n f=f i
 |0=>.inl rfl
 |n+1=>by
  unfold oR;split
  ·exact .inr ⟨n,by omega,rfl⟩
  ·rcases tH (f:=f) n with h|⟨i,hi,h⟩
   ·exact .inl h
   ·exact .inr ⟨i,by omega,h⟩
theorem FW (n:Nat) (f:Nat→Rat):ab (sumR n f)≤sumR n (fun j=>ab (f j)):=by
 induction n with
 |zero=>show ab 0≤0;rw[fO];grind
 |succ n ih=>
  show ab (sumR n f+f n)≤sumR n (fun j=>ab (f j))+ab (f n)
  have:=jV (iG (nK (sumR n f)) (nK (f n)));grind
theorem Fl {n:Nat} {f g:Nat→Rat} (h:∀j,j<n→f j≤g j):sumR n f≤sumR n g:=by
 induction n with
 |zero=>show(0:Rat)≤0;grind
 |succ n ih=>
  have h1:=ih fun j hj=>h j (by omega)
  have h2:=h n (by omega)
  show sumR n f+f n≤sumR n g+g n
  grind
theorem xK (n:Nat) (f:Nat→Rat) (c:Rat):sumR n (fun j=>f j*c)=sumR n f*c:=by
 induction n with
 |zero=>show(0:Rat)=0*c;grind
 |succ n ih=>
  show sumR n (fun j=>f j*c)+f n*c=(sumR n f+f n)*c
  rw[ih];grind
theorem fY {x d:Rat} (hd:d≠0):x / d*d=x:=by rw[Rat.div_def,Rat.mul_assoc,Rat.inv_mul_cancel _ hd,Rat.mul_one]
theorem GE {n:Nat} (hn:n≤4) (R:Nat→Nat→Rat) (h0:detR n R≠0) (i:Nat) (hi:i<n):sumR n (fun j=>R i j*(detR n (eh R (fun y=>R y n) j) / detR n R))=R i n:=by
 have h:=ru hn R (fun y=>R y n) i hi
 have e:sumR n (fun j=>R i j*(detR n (eh R (fun y=>R y n) j) / detR n R))*detR n R=R i n*detR n R:=by
  rw[←h,←xK];apply cX;intro j hj;have:=fY (x:=detR n (eh R (fun y=>R y n) j)) h0;generalize detR n (eh R (fun y=>R y n) j) / detR n R=t at*;rw[←this];grind
 generalize sumR n (fun j=>R i j*(detR n (eh R (fun y=>R y n) j) / detR n R))=S at*;generalize detR n R=d at*;have e2:(S-R i n)*d=0:=by grind
 rcases Rat.mul_eq_zero.1 e2 with h|h
 ·grind
 ·exact absurd h h0
theorem Cx {x y c:Rat} (hy:0<y) (h:x≤c*y):x / y≤c:=by
 have e:=fY (x:=x) (d:=y) (by grind);generalize x / y=t at*;exact kf hy (by rw[e];exact h)
theorem CY {x y c:Rat} (hy:0<y) (h:c*y≤x):c≤x / y:=by
 have e:=fY (x:=x) (d:=y) (by grind);generalize x / y=t at*;exact kf hy (by rw[e];exact h)
def Fb (q:Rat):Prop:=q=0∨(1 / 1073741824≤ab q∧ab q≤1073741824)
theorem yq {n:Nat} (hn:n≤4) {M:Nat→Nat→Nat×Nat} {z:Nat→Nat×Nat} {R:Nat→Nat→Rat} (iv:∀i j,i<n→j≤n→ivW (M i j)) (pts:∀i j,i<n→j≤n→loW (M i j)=R i j∧hiW (M i j)=R i j)
  (fa:∀i j,i<n→j≤n→Fb (R i j)) (nz:∀i,i<n→R i i≠0) (dom:∀i,i<n→sumR n (fun j=>ab (R i j))≤5 / 4*ab (R i i)):
  ∃g,dC muX suX quX pvX n M z=some g∧∀G:Rat,(∀j,j<n→ab (aF (g j).1)≤G∧ab (aF (g j).2)≤G)→∀i,i<n→aF (g i).2-aF (g i).1≤G / 1073741824:=by
 have dg:∀i,i<n→1 / 1073741824≤ab (R i i)∧ab (R i i)≤1073741824:=fun i hi=>(fa i i hi (by omega)).resolve_left (nz i hi)
 have dp:∀i,i<n→0<ab (R i i):=fun i hi=>by have:=(dg i hi).1;grind
 have r0:∀i,i<n→ab (R i n)≤1073741824:=fun i hi=>by
  rcases fa i n hi ae with h|h
  ·rw[h,fO];grind
  ·exact h.2
 generalize hV:oR n (fun i=>ab (R i n) / ab (R i i))=V
 have ge:∀i,i<n→ab (R i n)≤V*ab (R i i):=fun i hi=>by
  have h1:ab (R i n) / ab (R i i)≤V:=by rw[←hV];exact zc (f:=fun i=>ab (R i n) / ab (R i i)) hi
  have h2:=bu (Rat.le_of_lt (dp i hi)) h1;rw[fY (by have:=dp i hi;grind)] at h2;exact h2
 have pick:V=0∨∃i,i<n∧V*ab (R i i)=ab (R i n)∧1 / 1152921504606846976≤V∧V≤1152921504606846976:=by
  rcases tH (f:=fun i=>ab (R i n) / ab (R i i)) n with h|⟨i,hi,h⟩
  ·exact .inl (by rw[←hV,h])
  ·rw[hV] at h;have e:=fY (x:=ab (R i n)) (d:=ab (R i i)) (by have:=dp i hi;grind);rw[←h] at e;rcases fa i n hi ae with h0|⟨h1,h2⟩
   ·rw[h0,fO] at h;left;rw[h,Rat.div_def,Rat.zero_mul]
   ·right;refine⟨i,hi,e,?_,?_⟩
    ·rw[h];refine CY (dp i hi) ?_;have:=(dg i hi).2;grind
    ·rw[h];refine Cx (dp i hi) ?_;have:=(dg i hi).1;grind
 obtain⟨g,hg,hw⟩:=xV (z:=z) hn (V:=V) (M:=M) (R:=R) (by
   rcases pick with h|⟨_,_,_,h,_⟩
   ·exact .inl h
   ·right;unfold d8;grind) (by
   unfold fT;rcases pick with h|⟨_,_,_,_,h⟩
   ·rw[h];grind
   ·grind) iv pts (fun i hi=>(dg i hi).1) (fun i hi=>(dg i hi).2) dom (fun i hi=>kW (by have:=ge i hi;grind))
 refine⟨g,hg,fun G hG i hi=>?_⟩
 obtain⟨d0,hm⟩:=oj hn (R:=R) hg iv (fun y x hy hx=>by
  obtain⟨a,b⟩:=pts y x hy hx;unfold cn;unfold loW at a;unfold hiW at b;rw[a,b];exact⟨by grind,by grind⟩)
 have hG0:0≤G:=by
  have h1:=(hG 0 (by omega)).1;have h2:=eI (aF (g 0).1);grind
 have hx:∀j,j<n→ab (detR n (eh R (fun y=>R y n) j) / detR n R)≤G:=fun j hj=>by
  obtain⟨-,a,b⟩:=hm j hj;obtain⟨c,d⟩:=hG j hj;refine jV ⟨?_,?_⟩
  ·have:=(kW c).1;grind
  ·have:=(kW d).2;grind
 have hVG:V≤5 / 4*G:=by
  rcases pick with h|⟨k,hk,h,-,-⟩
  ·rw[h];grind
  ·have c:=GE hn R d0 k hk;have a:=FW n (fun j=>R k j*(detR n (eh R (fun y=>R y n) j) / detR n R));rw[c] at a
   have b:sumR n (fun j=>ab (R k j*(detR n (eh R (fun y=>R y n) j) / detR n R)))≤sumR n (fun j=>ab (R k j)*G):=Fl fun j hj=>by
    rw[oe];have:=bu (eI (R k j)) (hx j hj);grind
   rw[xK] at b;have e:=bu hG0 (dom k hk);have f:V*ab (R k k)≤5 / 4*G*ab (R k k):=by grind
   exact kf (dp k hk) f
 have h1:=(hw i hi).2;unfold hiW loW at h1;grind
structure ChM (n:Nat) (xs ys:Nat→Nat×Nat) (i:Nat) (Q:Nat→Nat→ap) (B:Nat→ap):Prop where
 q:∀r j,r<i→j<n→Cho (xs (n*r+j)).1 (xs (n*r+j)).2 (Q r j)
 b:∀r,r<i→Cho (ys r).1 (ys r).2 (B r)
theorem ChM.step {n:Nat} {xs ys:Nat→Nat×Nat} {i:Nat} {Q:Nat→Nat→ap} {B:Nat→ap} {q:Nat→ap} {y:ap} (h:ChM n xs ys i Q B) (hq:∀j,j<n→Cho (xs (n*i+j)).1 (xs (n*i+j)).2 (q j)) (hy:Cho (ys i).1 (ys i).2 y):ChM n xs ys (i+1) (fun k=>if k=i then q else Q k) (fun k=>if k=i then y else B k):=by
 refine⟨fun r j hr hj=>?_,fun r hr=>?_⟩
 ·by_cases hri:r=i
  ·subst hri;rw[if_pos rfl];exact hq j hj
  ·rw[if_neg hri];exact h.q r j (by omega) hj
 ·by_cases hri:r=i
  ·subst hri;rw[if_pos rfl];exact hy
  ·rw[if_neg hri];exact h.b r (by omega)
def DH (n:Nat) (xs ys zs:Nat→Nat×Nat):Prop:=∀R:Nat→Nat→Rat,(∀y x,y<n→x<n→cn (xs (n*y+x)) (R y x))→(∀y,y<n→cn (ys y) (R y n))→detR n R≠0∧∀i,i<n→cn (zs i) (detR n (eh R (fun y=>R y n) i) / detR n R)
def ko (n:Nat) (Q:Nat→Nat→ap) (B:Nat→ap) (y x:Nat):Rat:=if x<n then aI (Q y x) else aI (B y)
theorem FD {n:Nat} (Q:Nat→Nat→ap) (B:Nat→ap):detR n (fun i k=>aI (Q i k))=detR n (ko n Q B):=nL n fun i j _ hj=>by unfold ko;rw[if_pos hj]
theorem Ft {n:Nat} (Q:Nat→Nat→ap) (B:Nat→ap) (c:Nat):detR n (fun i k=>aI (entQ Q B (c:Int) i k))=detR n (eh (ko n Q B) (fun y=>ko n Q B y n) c):=nL n fun i j _ hj=>by
 unfold entQ eh ko;by_cases h:j=c
 ·rw[if_pos (by omega),if_pos h]
  show _=if n<n then aI (Q i n) else aI (B i)
  rw[if_neg (Nat.lt_irrefl _)]
 ·rw[if_neg (by omega),if_neg h,if_pos hj]
theorem D7 {n:Nat} {xs ys zs:Nat→Nat×Nat} {Q:Nat→Nat→ap} {B:Nat→ap} (h:ChM n xs ys n Q B) (hH:DH n xs ys zs):detR n (ko n Q B)≠0∧∀i,i<n→cn (zs i) (detR n (eh (ko n Q B) (fun y=>ko n Q B y n) i) / detR n (ko n Q B)):=by
 refine hH (ko n Q B) (fun y x hy hx=>?_) (fun y hy=>?_)
 ·have c:=h.q y x hy hx;unfold ko;rw[if_pos hx];exact⟨c.l,c.u⟩
 ·have c:=h.b y hy;unfold ko;rw[if_neg (Nat.lt_irrefl _)];exact⟨c.l,c.u⟩
theorem Gd {lo hi x d:ap} (hd:aI d≠0) (h1:aI lo≤aI x / aI d) (h2:aI x / aI d≤aI hi):(0≤sgnI d.1 d.2.1→lessT x (aT lo d)=false∧lessT (aT hi d) x=false)∧(sgnI d.1 d.2.1<0→lessT x (aT hi d)=false∧lessT (aT lo d) x=false):=by
 have key:∀a b:ap,aI b≤aI a→lessT a b=false:=fun a b h=>by
  cases hl:lessT a b with
  |false=>rfl
  |true=>have:=(jM _ _).1 hl;grind
 obtain⟨s1,s2⟩:=GA hd h1 h2;have sg:=(dY d).2;constructor
 ·intro h;have hp:0<aI d:=by have:=sg.1 h;grind
  obtain⟨a,b⟩:=s1 hp;exact⟨key _ _ (by rw[iU];exact a),key _ _ (by rw[iU];exact b)⟩
 ·intro h
  have hp:aI d<0:=by
   apply Decidable.byContradiction;intro hc;have:=sg.2 (by grind);omega
  obtain⟨a,b⟩:=s2 hp;exact⟨key _ _ (by rw[iU];exact a),key _ _ (by rw[iU];exact b)⟩
theorem D8 (ao bo oo:Option Addr) (n na ac bc oc:Nat) (xs ys zs:Nat→Nat×Nat) (pick:Int) (w:World) (hx:BxV w ao na xs) (hy:BxV w bo n ys) (hz:BxV w oo n zs) (hna:na=n*n) (hn0:n≠0) (hn:n≤4) (ix:Ivs na xs) (iy:Ivs n ys) (iz:Ivs n zs) (hH:DH n xs ys zs):
  aw 139 #[.slice ao na ac,.slice bo n bc,.slice oo n oc,iV pick] w (.bool true):=by
 obtain⟨i0,hI0,hy0,hy1,hy2⟩:=info_parts zK;obtain⟨i1,hI1,hz0,hz1,hz2⟩:=info_parts xj;have HX:=hid hx;have HY:=hid hy;have HZ:=hid hz;have IX:=hid ix;have IY:=hid iy;have IZ:=hid iz;have HH:=hid hH;have HNA:=hid hna;clear hx hy hz ix iy iz hH hna;go_enter Tryz.func139,Tryz.ntmps139;go_wp2
 go_loopw [10,11,12] (fun v10 v11 x wr=>∃(i:Nat) (hv u:Nat→Value) (Q:Nat→Nat→ap) (B:Nat→ap),i≤n∧x=iV (i:Int)∧HdM w wr n i i v10 v11 hv u Q B∧ChM n xs ys i Q B) (fun _ _ x _=>n-(intOf x).toNat)
 case atStart=>exact⟨0,fun _=>.slice none 0 0,fun _=>.slice none 0 0,fun _ _=>(false,0,0),fun _=>(false,0,0),Nat.zero_le _,rfl,⟨NMb.nil _ _ _ _ _,NBl.nil _ _ _ _,fun r hr=>by omega,Below.refl _ _⟩,⟨fun r j hr=>by omega,fun r hr=>by omega⟩⟩
 case round=>
  obtain⟨i,hv,u,Q,B,hi1,rfl,hm,hc⟩:=hrel;have HM:=hid hm;have CM:=hid hc;clear hm hc;obtain⟨w3,rfl⟩:∃w3,w3=wr:=⟨_,rfl⟩;by_cases hi:i<n
  ·have gi:decide ((i:Int)<(n:Int))=true:=decide_eq_true (by omega);go_wp2_with fail
   go_loopw [13,14] (fun v x wy=>∃(j:Nat) (q:Nat→ap) (uu:Nat→Value),j≤n∧x=iV (j:Int)∧NBl w3.heap.size wy v j q uu∧(∀k,k<j→Cho (xs (n*i+k)).1 (xs (n*i+k)).2 (q k))∧Below w3.heap.size w3 wy) (fun _ x _=>n-(intOf x).toNat)
   case atStart=>exact⟨0,fun _=>(false,0,0),fun _=>.slice none 0 0,Nat.zero_le _,rfl,NBl.nil _ _ _ _,(fun k hk=>by omega),Below.refl _ _⟩
   case round=>
    obtain⟨j,q,uu,hj1,rfl,hnb,hch,hb⟩:=hrel;have NL:=hid hnb;have CH:=hid hch;have B4:=hid hb;clear hnb hch hb;obtain⟨w4,rfl⟩:∃w4,w4=wr:=⟨_,rfl⟩;by_cases hj:j<n
    ·have hidx:n*i+j<na:=by
      have:n*(i+1)≤n*n:=Nat.mul_le_mul_left n (by omega);have:=HNA.out;have h3:n*(i+1)=n*i+n:=Nat.mul_succ n i;omega
     have hbw:Below w.heap.size w w4:=HM.out.hb.trans (B4.out.mono HM.out.hb.size);obtain⟨ga,offa,rfl,hga,hca⟩:=HX.out.resolve_left (by omega);obtain⟨a1,a2⟩:=hca _ hidx;rw[←hbw.cell (by exact hga)] at a1 a2;have hgl:ga<w4.heap.size:=Nat.lt_of_lt_of_le hga hbw.size;have HC:=hid (fun(p:Int) (W:World)=>qZ (xs (n*i+j)).1 (xs (n*i+j)).2 (IX.out _ hidx) p W);have hmul:(n:Int)*(i:Int)=((n*i:Nat):Int):=by simp
     have hni:n*i≤16:=Nat.mul_le_mul hn (by omega:i≤4)
     have CN:Hid (∀q',Cho (xs (n*i+j)).1 (xs (n*i+j)).2 q'→∀k,k<j+1→Cho (xs (n*i+k)).1 (xs (n*i+k)).2 ((fun k=>if k=j then q' else q k) k)):=fun q' h k hk=>by
      by_cases hkj:k=j
      ·subst hkj;show Cho _ _ (if k=k then q' else q k);rw[if_pos rfl];exact h
      ·show Cho _ _ (if k=j then q' else q k);rw[if_neg hkj];exact CH.out k (by omega)
     generalize xs (n*i+j)=pt at*;generalize n*i=ni at*;obtain⟨p1,p2⟩:=pt;simp only at a1 a2 HC CN;have hw1:IntKind.i64.wrap ((ni:Nat):Int)=(ni:Int):=by rw[IntKind.wrap_i64];omega
     have hw2:IntKind.i64.wrap ((ni:Int)+(j:Int))=(ni:Int)+(j:Int):=by rw[IntKind.wrap_i64];omega
     have hw3:IntKind.i64.wrap (2*((ni:Int)+(j:Int)))=2*((ni:Int)+(j:Int)):=by rw[IntKind.wrap_i64];omega
     have hx1:0≤(ni:Int)+(j:Int)∧(ni:Int)+(j:Int)<(na:Int):=by omega
     have hx2:ni+j<na:=hidx;have htn:((ni:Int)+(j:Int)).toNat=ni+j:=by omega
     clear hca hga CH hbw;have HCL:Hid (∀W:World,Below w4.heap.size w4 W→W.cell? ⟨ga,offa+(ni+j)*2,none⟩=some (nV p1)∧W.cell? ⟨ga,offa+(ni+j)*2+1,none⟩=some (nV p2)):=fun W hW=>⟨by rw[hW.cell (by exact hgl)];exact a1,by rw[hW.cell (by exact hgl)];exact a2⟩
     go_wp2_with fail
     go_cut [15] (fun s15 wc=>∃(gx:Nat) (q':ap) (o:Option Addr) (l c:Nat),s15= .pointer (some ⟨gx,0,none⟩)∧NBk wc gx q' o l c∧Cho p1 p2 q'∧Below w4.heap.size w4 wc)
     case first=>
      have iN:Hid (Below w4.heap.size w4 w4.drew):=aK.drew;clear CN NL CM HM HX HY HZ IX IY IZ HH
      go_region_held3 (fun W=>W.cell? ⟨ga,offa+(ni+j)*2,none⟩=some (.int .u64 (p1:Int))∧W.cell? ⟨ga,offa+(ni+j)*2+1,none⟩=some (.int .u64 (p2:Int))) (first|with_reducible exact HCL.out _ iN.out|exact HCL.out _ (iN.out.alloc iN.out.size _)|exact HCL.out _ (((iN.out.setCell ae _).setCell ae _).setCell ae _))
       (first
         |(go_at_call 170;with_reducible (refine (HC.out _ _).mono ?_);rintro e v0 ⟨q',o',l',c',rfl,hl',hn',hch',hbk⟩
           have iN:=hid (iN.out.trans (hbk.mono iN.out.size));have CQ:=hid hch';have LQ:=hid hl';have NQ:=hid hn';clear hbk hch' hl' hn')
         |(go_at_call 170;with_reducible (refine (HC.out _ _).mono ?_);rintro e v0 ⟨q',o',l',c',rfl,hl',hn',hch',hbk⟩
           have KZ:=hid (aa (w:=(w4.alloc (.cells #[.bool false,.slice none 0 0,iV 0] 92)).drew) (af w4 (.cells #[.bool false,.slice none 0 0,iV 0] 92)) hbk);have iM:Hid (Below w4.heap.size w4 (w4.alloc (.cells #[.bool false,.slice none 0 0,iV 0] 92)).drew):=aJ.drew;have iN:=hid (iM.out.trans (hbk.mono iM.out.size));have CQ:=hid hch';have LQ:=hid hl';have NQ:=hid hn';obtain⟨z0,z1,z2,f0,f1,f2⟩:=aB KZ.out;have hlz:=ag KZ.out;clear hbk hch' hl' hn' iM))
      all_goals(go_wp2_with fail;go_meet)
      all_goals first
       |exact⟨_,q',o',l',c',rfl,⟨af _ _,LQ.out,NQ.out.below aJ ae⟩,CQ.out,iN.out.alloc iN.out.size _⟩
       |exact⟨w4.heap.size,q',o',l',c',rfl,⟨aY KZ.out,LQ.out,bM NQ.out KZ.out⟩,CQ.out,((iN.out.setCell ae _).setCell ae _).setCell ae _⟩
     case rest=>
      obtain⟨gx,q',o',l',c',rfl,hk,hch',hbc⟩:=hcut;have KX:=hid hk;have CQ:=hid (CN.out q' hch');have NL2:=hid ((NL.out.below hbc).congr (q':=fun k=>if k=j then q' else q k) (fun k hk=>by rw[if_neg (by omega)]));have B5:=hid (B4.out.trans (hbc.mono B4.out.size));have LQ:=hid hk.len;have NQ:=hid hk.nat
      obtain⟨x0,x1,x2,-,-,-⟩:=aB hk.blk;have hlt:=ag hk.blk;have hsz:=B5.out.size;clear hk hch' hbc NL B4 CN KX HC HCL a1 a2 hgl hw1 hw2 hw3 hx1 hx2 htn
      go_wp2_with (first
       |(at_builtin;refine wpList_append_own _ rfl _ _ 103 rfl w3.heap.size 92 i0 (.agg #[.bool false,.slice none 0 0,iV 0]) 3 40 Tryz.underlying103 hI0 hy0 hy1 hy2 rfl (by decide) _ _ _ rfl (NL2.out.own.alloc _) ⟨wc.heap.size,0,none⟩ 1 1 [.bool q'.1,.slice o' l' c',iV q'.2.2] rfl rfl md ?c2 ?c3 ?c4 ?c5 ?_)
       |go_in)
      case c2=>intro u hu;simp at hu;rcases hu with rfl|rfl|rfl<;>rfl
      case c3=>unfold maxLen;omega
      case c4=>omega
      case c5=>first|omega|(simp;omega)
      ·intro v' w5 hown' hgrow _;have PB:=hid (eQ NL2.out.own B5.out ae hgrow);have PN:=hid (NL2.out.push (o:=o') (l:=l') (c:=c') (by rw[if_pos rfl];exact LQ.out) (by rw[if_pos rfl];exact NQ.out) (by rw[if_pos rfl];exact hown') hgrow aJ);clear hown' hgrow NL2 B5 LQ NQ x0 x1 x2 hlt;go_wp2;go_roundw
       case rel=>first|exact⟨j+1,_,_,by omega,by go_num,PN.out,CQ.out,PB.out⟩|((repeat apply Exists.intro);exact⟨⟨j+1,_,_,by omega,by go_num,PN.out,CQ.out,PB.out⟩,rfl⟩)
       case measure=>simp[intOf];omega
    ·obtain rfl:n=j:=by omega
     have NR:=NL.out.row;obtain⟨po,pc,rfl,-⟩:=id NR;have NR:=hid NR;have HM4:=hid (HM.out.below B4.out)
     have SEP:Hid (∀g,u11.ownBlock=some g→(Value.slice po n pc).ownBlock≠some g):=fun g hgv hc=>by
      have h1:=(NL.out.blk hc).1;have h2:=(HM.out.v.blk hgv).2;omega
     have hsz:=HM4.out.hb.size;have CHR:=hid CH.out;clear NL HM B4 CH
     go_wp2_with (first
      |(at_builtin;refine wpList_append_own _ rfl _ _ 210 rfl w.heap.size 103 i1 (.slice none 0 0) 1 24 Tryz.underlying210 hI1 hz0 hz1 hz2 rfl (by decide) _ _ _ rfl (HM4.out.m.own.alloc _) ⟨w4.heap.size,0,none⟩ 1 1 [.slice po n pc] rfl rfl qM ?c2 ?c3 ?c4 ?c5 ?_)
      |go_in)
     case c2=>first|rfl|(intro u hu;simp at hu;rcases hu with rfl;rfl)
     case c3=>unfold maxLen;omega
     case c4=>omega
     case c5=>first|omega|(simp;omega)
     ·intro v' w5 hown' hgrow _;have HR5:=hid (HM4.out.row NR.out SEP.out hown' hgrow);clear hown' hgrow HM4 NR SEP hsz;have hbw:=HR5.out.hb;obtain⟨gb,offb,rfl,hgb,hcb⟩:=HY.out.resolve_left (by omega);obtain⟨a1,a2⟩:=hcb i hi;rw[←hbw.cell (by exact hgb)] at a1 a2;have hgl:gb<w5.heap.size:=Nat.lt_of_lt_of_le hgb hbw.size;have HC:=hid (fun(p:Int) (W:World)=>qZ (ys i).1 (ys i).2 (IY.out i hi) p W);have CN:Hid (∀y,Cho (ys i).1 (ys i).2 y→ChM n xs ys (i+1) (fun k=>if k=i then q else Q k) (fun k=>if k=i then y else B k)):=fun y h=>CM.out.step CHR.out h
      generalize(ys i).1=p1 at*;generalize(ys i).2=p2 at*;have hw1:IntKind.i64.wrap (2*(i:Int))=2*(i:Int):=by rw[IntKind.wrap_i64];omega
      have hw2:IntKind.i64.wrap (2*(i:Int)+40)=2*(i:Int)+40:=by rw[IntKind.wrap_i64];omega
      have HCL:Hid (∀W:World,Below w5.heap.size w5 W→W.cell? ⟨gb,offb+i*2,none⟩=some (nV p1)∧W.cell? ⟨gb,offb+i*2+1,none⟩=some (nV p2)):=fun W hW=>⟨by rw[hW.cell (by exact hgl)];exact a1,by rw[hW.cell (by exact hgl)];exact a2⟩
      clear hcb hgb hbw CM CHR;go_wp2_with fail
      go_cut [16] (fun s16 wc=>∃(gx:Nat) (q':ap) (o:Option Addr) (l c:Nat),s16= .pointer (some ⟨gx,0,none⟩)∧NBk wc gx q' o l c∧Cho p1 p2 q'∧Below w5.heap.size w5 wc)
      case first=>
       have iN:Hid (Below w5.heap.size w5 w5.drew):=aK.drew;clear CN HR5 HX HY HZ IX IY IZ HH
       go_region_held3 (fun W=>W.cell? ⟨gb,offb+i*2,none⟩=some (.int .u64 (p1:Int))∧W.cell? ⟨gb,offb+i*2+1,none⟩=some (.int .u64 (p2:Int))) (first|with_reducible exact HCL.out _ iN.out|exact HCL.out _ (iN.out.alloc iN.out.size _)|exact HCL.out _ (((iN.out.setCell ae _).setCell ae _).setCell ae _))
        (first
          |(go_at_call 170;with_reducible (refine (HC.out _ _).mono ?_);rintro e v0 ⟨q',o',l',c',rfl,hl',hn',hch',hbk⟩
            have iN:=hid (iN.out.trans (hbk.mono iN.out.size));have CQ:=hid hch';have LQ:=hid hl';have NQ:=hid hn';clear hbk hch' hl' hn')
          |(go_at_call 170;with_reducible (refine (HC.out _ _).mono ?_);rintro e v0 ⟨q',o',l',c',rfl,hl',hn',hch',hbk⟩
            have KZ:=hid (aa (w:=(w5.alloc (.cells #[.bool false,.slice none 0 0,iV 0] 92)).drew) (af w5 (.cells #[.bool false,.slice none 0 0,iV 0] 92)) hbk);have iM:Hid (Below w5.heap.size w5 (w5.alloc (.cells #[.bool false,.slice none 0 0,iV 0] 92)).drew):=aJ.drew;have iN:=hid (iM.out.trans (hbk.mono iM.out.size));have CQ:=hid hch';have LQ:=hid hl';have NQ:=hid hn';obtain⟨z0,z1,z2,f0,f1,f2⟩:=aB KZ.out;have hlz:=ag KZ.out;clear hbk hch' hl' hn' iM))
       all_goals(go_wp2_with fail;go_meet)
       all_goals first
        |exact⟨_,q',o',l',c',rfl,⟨af _ _,LQ.out,NQ.out.below aJ ae⟩,CQ.out,iN.out.alloc iN.out.size _⟩
        |exact⟨w5.heap.size,q',o',l',c',rfl,⟨aY KZ.out,LQ.out,bM NQ.out KZ.out⟩,CQ.out,((iN.out.setCell ae _).setCell ae _).setCell ae _⟩
      case rest=>
       obtain⟨gx,q',o',l',c',rfl,hk,hch',hbc⟩:=hcut;have CQ:=hid (CN.out q' hch');have HR6:=hid (HR5.out.below hbc);have LQ:=hid hk.len;have NQ:=hid hk.nat
       obtain⟨x0,x1,x2,-,-,-⟩:=aB hk.blk;have hlt:=ag hk.blk;have hsz:=HR6.out.hb.size;clear hk hch' hbc HR5 CN HC HCL a1 a2 hgl hw1 hw2
       go_wp2_with (first
        |(at_builtin;refine qP rfl _ _ 103 rfl w.heap.size 92 i0 (.agg #[.bool false,.slice none 0 0,iV 0]) 3 40 Tryz.underlying103 hI0 hy0 hy1 hy2 rfl (by decide) _ _ _ rfl (HR6.out.v.own.alloc _) ⟨wc.heap.size,0,none⟩ 1 1 [.bool q'.1,.slice o' l' c',iV q'.2.2] (by decide) rfl rfl md ?c2 ?c3 ?c4 ?c5 ?_)
        |go_in)
       case c2=>intro u hu;simp at hu;rcases hu with rfl|rfl|rfl<;>rfl
       case c3=>unfold maxLen;omega
       case c4=>omega
       case c5=>first|omega|(simp;omega)
       ·intro v'' w6 hown' hgrow hblk;obtain⟨u',hN⟩:=HR6.out.num (yo:=o') (yl:=l') (yc:=c') hn0 LQ.out NQ.out hown' hgrow (by rw[World.size_alloc];exact hblk);have HN6:=hid hN;clear hN hown' hgrow hblk HR6 LQ NQ x0 x1 x2 hlt;go_wp2;go_roundw
        case rel=>first|exact⟨i+1,_,_,_,_,by omega,by go_num,HN6.out,CQ.out⟩|((repeat apply Exists.intro);exact⟨⟨i+1,_,_,_,_,by omega,by go_num,HN6.out,CQ.out⟩,rfl⟩)
        case measure=>simp[intOf];omega
  ·obtain rfl:n=i:=by omega
   have MT:=hid HM.out.m.mat
   have NR0:=HM.out.v.row;obtain⟨vo,vc,rfl,-⟩:=id NR0;have NR:=hid NR0;have HB:=hid HM.out.hb
   have BQ:Hid (∀(col:Int) (a b:Nat),a<n→b<n→Bq 953 953 (entQ Q B col a b)):=fun col a b ha hb=>by
    unfold entQ;split
    ·exact(CM.out.b a ha).bq
    ·exact(CM.out.q a b ha hb).bq
   have SH:=hid (D7 CM.out HH.out);have DC:=hid (qs n hn u10 vo n vc (-1) Q B w3 MT.out (.inl (by omega)) (BQ.out (-1)));have hmm:=Fa hn;clear NR0 HM CM HH HX HY IX IY;unfold nJ at DC;go_wp2_with fail;refine Calls.mono DC.out ?_;rintro e w5 ⟨d,do_,dl,dc,rfl,hdl,hdn,hdp,hb5⟩;have hdv:=hdp.val;rw[qw _ _ (by omega),FD (B:=B)] at hdv;have DV:=hid hdv;have D0:Hid (aI d≠0):=by show _≠_;rw[DV.out];exact SH.out.1
   have BD:=hid hdp.bq;have SD:=hid (hdp.bq.sm (by omega) (by omega));have hb35:=hb5;have K5:=af w5 (.cells #[.bool d.1,.slice do_ dl dc,iV d.2.2] 92);have ha:Below w5.heap.size w5 (w5.alloc (.cells #[.bool d.1,.slice do_ dl dc,iV d.2.2] 92)):=aK.alloc ae _;have KD5:=hid (NBk.mk K5 hdl (hdn.below ha ae));have B36:=hid (hb5.trans (ha.mono hb5.size))
   have gz:(sgnI d.1 d.2.1==0)=false:=by
    rw[beq_eq_false_iff_ne];intro hc;have a:=(dY d).1.1 (by omega);have b:=(dY d).2.1 (by omega);exact D0.out (by grind)
   clear hdl hdn hdp hb5 hdv DC K5 ha hb35;go_wp2_with fail;generalize(w5.alloc (.cells #[.bool d.1,.slice do_ dl dc,iV d.2.2] 92))=W5 at*;generalize w5.heap.size=gD at*;refine (fw _ d.1 d.2.1 d.2.2 W5 ⟨do_,dl,dc,rfl,KD5.out.len,KD5.out.nat⟩).mono ?_;rintro e w6 ⟨rfl,hb6⟩;have KD:=hid (KD5.out.below hb6);have h36:=B36.out.trans (hb6.mono B36.out.size);have MT6:=hid (MT.out.below h36);have NR6:=hid (NR.out.below h36);have HB6:=hid (HB.out.trans (h36.mono HB.out.size));clear hb6 h36 KD5 B36 MT NR HB;go_wp2_with fail
   go_loopw [18] (fun x wy=>∃k:Nat,k≤n∧x=iV (k:Int)∧Below w6.heap.size w6 wy) (fun x _=>n-(intOf x).toNat)
   case atStart=>exact⟨0,Nat.zero_le _,rfl,Below.refl _ _⟩
   case round=>
    obtain⟨k,hk1,rfl,hb⟩:=hrel;have HB7:=hid hb;clear hb;by_cases hk:k<n
    ·have DC:=hid (qs n hn u10 vo n vc (k:Int) Q B wr (MT6.out.below HB7.out) (.inr ⟨rfl,NR6.out.below HB7.out⟩) (BQ.out (k:Int)));unfold nJ at DC;obtain⟨g,off,rfl,hg,hc⟩:=HZ.out.resolve_left (by omega);obtain⟨c1,c2⟩:=hc k hk;have hbw:=HB6.out.trans (HB7.out.mono HB6.out.size)
     have HCL:Hid (∀W:World,Below wr.heap.size wr W→W.cell? ⟨g,off+k*2,none⟩=some (uV ((zs k).1:Int))∧W.cell? ⟨g,off+k*2+1,none⟩=some (uV ((zs k).2:Int))∧g<W.heap.size):=fun W hW=>by
      have h:=hbw.trans (hW.mono hbw.size);exact⟨by rw[h.cell (by exact hg)];exact c1,by rw[h.cell (by exact hg)];exact c2,Nat.lt_of_lt_of_le hg h.size⟩
     have iv:=IZ.out k hk;have MG:=hid (du (zs k).1 (zs k).2 iv.lt1 iv.lt2);rw[dm iv] at MG;simp only at MG;have P1:=hid (ct iv.p1);have P2:=hid (ct iv.p2);have MW:=hid (SH.out.2 k hk);have KD7:=hid (KD.out.below HB7.out)
     have BTW:Hid (∀x:ap,aI x=detR n (fun i b=>aI (entQ Q B (k:Int) i b))→(0≤sgnI d.1 d.2.1→lessT x (aT (plT (zs k).1) d)=false∧lessT (aT (plT (zs k).2) d) x=false)∧(sgnI d.1 d.2.1<0→lessT x (aT (plT (zs k).2) d)=false∧lessT (aT (plT (zs k).1) d) x=false)):=fun x hx=>by
      rw[Ft] at hx;obtain⟨m1,m2⟩:=MW.out;rw[←hx,←DV.out] at m1 m2;exact Gd D0.out m1 m2
     generalize plT (zs k).1=zl at*;generalize plT (zs k).2=zh at*;generalize(zs k).1=y1 at*;generalize(zs k).2=y2 at*;clear hc hg c1 c2 hbw iv MW HZ IZ;go_wp2_with fail;refine Calls.mono DC.out ?_;rintro e w8 ⟨x,xo,xl,xc,rfl,hxl,hxn,hxp,hb8⟩;have BT:=hid (BTW.out x hxp.val);have SX:=hid (hxp.bq.sm (by omega) (by omega));have ha:Below w8.heap.size w8 (w8.alloc (.cells #[.bool x.1,.slice xo xl xc,iV x.2.2] 92)):=aK.alloc ae _;have KX:=hid (NBk.mk (x:=x) (af w8 (.cells #[.bool x.1,.slice xo xl xc,iV x.2.2] 92)) hxl (hxn.below ha ae));have B8:=hid (hb8.trans (ha.mono hb8.size));obtain⟨c1,c2,hgl⟩:=HCL.out w8 hb8;clear hxl hxn hxp hb8 ha DC BTW;go_wp2_with fail;generalize(w8.alloc (.cells #[.bool x.1,.slice xo xl xc,iV x.2.2] 92))=W9 at*;generalize w8.heap.size=gX at*;refine (MG.out _).mono ?_;rintro e w9 ⟨ao1,la,ca,bo1,lb,cb,rfl,hla,hlb,hna1,hnb1,hb9⟩;have ha:Below w9.heap.size w9 (w9.alloc (.cells #[.bool zl.1,.slice ao1 la ca,iV zl.2.2,.bool zh.1,.slice bo1 lb cb,iV zh.2.2] 98)):=aK.alloc ae _;have KI:=af w9 (.cells #[.bool zl.1,.slice ao1 la ca,iV zl.2.2,.bool zh.1,.slice bo1 lb cb,iV zh.2.2] 98);have B9:=B8.out.trans (hb9.mono B8.out.size);have KD9:=hid (KD7.out.below B9);have B10:=hid (B9.trans (ha.mono B9.size));have KX10:=hid ((KX.out.below hb9).below ha);have KD10:=hid (KD9.out.below ha);have N1:=hid (hna1.below ha ae);have N2:=hid (hnb1.below ha ae);have L2:=hid hlb;have HP1:=hid (kU P1.out.sm SD.out (w9.alloc (.cells #[.bool zl.1,.slice ao1 la ca,iV zl.2.2,.bool zh.1,.slice bo1 lb cb,iV zh.2.2] 98)) ao1 do_ la ca dl dc hla N1.out KD10.out.len KD10.out.nat);obtain⟨d0,d1,d2,-,-,-⟩:=aB KD9.out.blk;have hld:=ag KD9.out.blk;clear hla hlb hna1 hnb1 hb9 ha B9 B8 KX MG c1 c2 hgl KD9 N1;go_wp2_with fail;generalize(w9.alloc (.cells #[.bool zl.1,.slice ao1 la ca,iV zl.2.2,.bool zh.1,.slice bo1 lb cb,iV zh.2.2] 98))=W10 at*;generalize w9.heap.size=gI at*;refine Calls.mono HP1.out ?_;rintro e w11 ⟨lo_,ll,lc,rfl,hll,hln,hb11⟩;have BPL:=hid (P1.out.bq.prod BD.out);generalize hpl:aT zl d=pl at*;have KI11:=hid (aa KI hb11);have KX11:=hid (KX10.out.below hb11);have KD11:=hid (KD10.out.below hb11);have B11:=hid (B10.out.trans (hb11.mono B10.out.size));have N2:=hid (N2.out.below hb11 ae);have ha:Below w11.heap.size w11 (w11.alloc (.cells #[.bool pl.1,.slice lo_ ll lc,iV pl.2.2] 92)):=aK.alloc ae _;have KL12:=hid (NBk.mk (x:=pl) (af w11 (.cells #[.bool pl.1,.slice lo_ ll lc,iV pl.2.2] 92)) hll (hln.below ha ae));have KD12:=hid (KD11.out.below ha);have HP2:=hid (kU P2.out.sm SD.out (w11.alloc (.cells #[.bool pl.1,.slice lo_ ll lc,iV pl.2.2] 92)) bo1 do_ lb cb dl dc L2.out (N2.out.below ha ae) KD12.out.len KD12.out.nat);have KX12:=hid (KX11.out.below ha);have B12:=hid (B11.out.trans (ha.mono B11.out.size));have hgeL:=B11.out.size;have hXL:=ag KX11.out.blk;clear d0 d1 d2 hld;obtain⟨d0,d1,d2,-,-,-⟩:=aB KD11.out.blk;obtain⟨-,-,-,a3,a4,a5,-,-,-,-,-,-⟩:=bH KI11.out;have hld:=ag KD11.out.blk;have hlI:=ag KI11.out;clear hll hln hb11 ha KI KX10 KD10 B10 HP1 KX11 KD11 B11 N2 L2 hpl;go_wp2_with fail;generalize(w11.alloc (.cells #[.bool pl.1,.slice lo_ ll lc,iV pl.2.2] 92))=W12 at*;generalize w11.heap.size=gL at*;refine Calls.mono HP2.out ?_;rintro e w13 ⟨ho_,hl,hc_,rfl,hhl,hhn,hb13⟩;have BPH:=hid (P2.out.bq.prod BD.out);generalize hph:aT zh d=ph at*;have KX13:=hid (KX12.out.below hb13);have KD13:=hid (KD12.out.below hb13);have KL13:=hid (KL12.out.below hb13);have B13:=hid (B12.out.trans (hb13.mono B12.out.size));have ha:Below w13.heap.size w13 (w13.alloc (.cells #[.bool ph.1,.slice ho_ hl hc_,iV ph.2.2] 92)):=aK.alloc ae _;have KH14:=hid (NBk.mk (x:=ph) (af w13 (.cells #[.bool ph.1,.slice ho_ hl hc_,iV ph.2.2] 92)) hhl (hhn.below ha ae));have KD14:=hid (KD13.out.below ha);have KX14:=hid (KX13.out.below ha);have KL14:=hid (KL13.out.below ha);have B14:=hid (B13.out.trans (ha.mono B13.out.size));have HSG:=hid (fw _ d.1 d.2.1 d.2.2 (w13.alloc (.cells #[.bool ph.1,.slice ho_ hl hc_,iV ph.2.2] 92)) ⟨do_,dl,dc,rfl,KD14.out.len,KD14.out.nat⟩);have hLH:gL<w13.heap.size:=ag KL13.out.blk;have hgeH:=B13.out.size;have hXH:=ag KX13.out.blk;clear d0 d1 d2 hld a3 a4 a5 hlI;obtain⟨d0,d1,d2,-,-,-⟩:=aB KD13.out.blk;have hld:=ag KD13.out.blk;clear hhl hhn hb13 ha KX12 KD12 KL12 B12 HP2 KX13 KD13 KL13 B13 hph KI11;go_wp2_with fail;generalize(w13.alloc (.cells #[.bool ph.1,.slice ho_ hl hc_,iV ph.2.2] 92))=W14 at*;generalize w13.heap.size=gH at*;refine Calls.mono HSG.out ?_;rintro e w15 ⟨rfl,hb15⟩;have KX15:=hid (KX14.out.below hb15);have KL15:=hid (KL14.out.below hb15);have KH15:=hid (KH14.out.below hb15);have B15:=hid (B14.out.trans (hb15.mono B14.out.size));have SPL:=hid (BPL.out.sm (by omega) (by omega));have SPH:=hid (BPH.out.sm (by omega) (by omega));clear hb15 KX14 KL14 KH14 KD14 B14 HSG d0 d1 d2 hld BPL BPH P1 P2;obtain⟨x0,x1,x2,-,-,-⟩:=aB KX15.out.blk;obtain⟨l0,l1,l2,fl0,fl1,fl2⟩:=aB KL15.out.blk;obtain⟨h0,h1,h2,fh0,fh1,fh2⟩:=aB KH15.out.blk;have hlx:=ag KX15.out.blk;have hll:=ag KL15.out.blk;have hlh:=ag KH15.out.blk;by_cases hsg:sgnI d.1 d.2.1<0
     ·have g1:decide (sgnI d.1 d.2.1<0)=true:=decide_eq_true hsg;obtain⟨t1,t2⟩:=BT.out.2 hsg;clear hsg BT
      go_upto_region 30 with fail
      generalize hW:(((((((w15.setCell ⟨gL,0,none⟩ (.bool ph.1)).setCell ⟨gL,1,none⟩ (.slice ho_ hl hc_)).setCell ⟨gL,2,none⟩ (iV ph.2.2)).setCell ⟨gH,0,none⟩ (.bool pl.1)).setCell ⟨gH,1,none⟩ (.slice lo_ ll lc)).setCell ⟨gH,2,none⟩ (iV pl.2.2)).alloc (.cells #[.bool pl.1,.slice lo_ ll lc,iV pl.2.2] 92))=W16;obtain⟨s1,s2,s3,s4⟩:=Ex B15.out KX15.out KL15.out KH15.out hgeL hgeH (by omega) (by omega) (by omega) _ W16 hW.symm;have KX16:=hid s1;have KL16:=hid s2;have KH16:=hid s3;have B16:=hid s4;clear s1 s2 s3 s4 hW KX15 KL15 KH15 B15 x0 x1 x2 l0 l1 l2 fl0 fl1 fl2 h0 h1 h2 fh0 fh1 fh2 hlx hll hlh;have HL1:=hid (jC SX.out SPH.out W16 xo ho_ xl xc hl hc_ KX16.out.len KX16.out.nat KL16.out.len KL16.out.nat);rw[t1] at HL1;clear t1;obtain⟨x0,x1,x2,-,-,-⟩:=aB KX16.out.blk;obtain⟨l0,l1,l2,-,-,-⟩:=aB KL16.out.blk;have hlx:=ag KX16.out.blk;have hll:=ag KL16.out.blk;go_wp2_with fail;refine Calls.mono HL1.out ?_;rintro e w17 ⟨rfl,hb17⟩;have KX17:=hid (KX16.out.below hb17);have KH17:=hid (KH16.out.below hb17);have B17:=hid (B16.out.trans (hb17.mono B16.out.size));have HL2:=hid (jC SPL.out SX.out w17 lo_ xo ll lc xl xc KH17.out.len KH17.out.nat KX17.out.len KX17.out.nat);rw[t2] at HL2;clear hb17 KX16 KL16 KH16 B16 HL1 t2 x0 x1 x2 l0 l1 l2 hlx hll;obtain⟨x0,x1,x2,-,-,-⟩:=aB KX17.out.blk;obtain⟨h0,h1,h2,-,-,-⟩:=aB KH17.out.blk;have hlx:=ag KX17.out.blk;have hlh:=ag KH17.out.blk;go_wp2_with fail;refine Calls.mono HL2.out ?_;rintro e w18 ⟨rfl,hb18⟩;have h18:=B17.out.trans (hb18.mono B17.out.size);have HB18:=hid (HB7.out.trans (h18.mono HB7.out.size));clear hb18 h18 HL2 KX17 KH17 B17 x0 x1 x2 h0 h1 h2 hlx hlh;go_wp2;go_roundw
      case rel=>exact⟨k+1,by omega,by go_num,HB18.out⟩
      case measure=>simp[intOf];omega
     ·have g1:decide (sgnI d.1 d.2.1<0)=false:=decide_eq_false hsg;obtain⟨t1,t2⟩:=BT.out.1 (by omega);have HL1:=hid (jC SX.out SPL.out w15 xo lo_ xl xc ll lc KX15.out.len KX15.out.nat KL15.out.len KL15.out.nat);rw[t1] at HL1;clear hsg BT t1;go_wp2_with fail;refine Calls.mono HL1.out ?_;rintro e w16 ⟨rfl,hb16⟩;have KX16:=hid (KX15.out.below hb16);have KH16:=hid (KH15.out.below hb16);have B16:=hid (B15.out.trans (hb16.mono B15.out.size));have HL2:=hid (jC SPH.out SX.out w16 ho_ xo hl hc_ xl xc KH16.out.len KH16.out.nat KX16.out.len KX16.out.nat);rw[t2] at HL2;clear hb16 KX15 KL15 KH15 B15 HL1 t2 x0 x1 x2 l0 l1 l2 fl0 fl1 fl2 h0 h1 h2 fh0 fh1 fh2 hlx hll hlh;obtain⟨x0,x1,x2,-,-,-⟩:=aB KX16.out.blk;obtain⟨h0,h1,h2,-,-,-⟩:=aB KH16.out.blk;have hlx:=ag KX16.out.blk;have hlh:=ag KH16.out.blk;go_wp2_with fail;refine Calls.mono HL2.out ?_;rintro e w17 ⟨rfl,hb17⟩;have h17:=B16.out.trans (hb17.mono B16.out.size);have HB17:=hid (HB7.out.trans (h17.mono HB7.out.size));clear hb17 h17 HL2 KX16 KH16 B16 x0 x1 x2 h0 h1 h2 hlx hlh;go_wp2;go_roundw
      case rel=>exact⟨k+1,by omega,by go_num,HB17.out⟩
      case measure=>simp[intOf];omega
    ·have HBF:=hid (HB6.out.trans (HB7.out.mono HB6.out.size));go_wp2
     go_ret
     exact⟨rfl,HBF.out⟩
end
end Go.Proofs.YtonhpkigoplmaaaGreatDoor
