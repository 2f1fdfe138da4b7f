import Derived.Test.YtonhpkigoplmaaaGreatDoorZ08
set_option maxRecDepth 100000
set_option maxHeartbeats 40000000
namespace Go.Proofs.YtonhpkigoplmaaaGreatDoor
section
def upd {α:Type} (r:Nat→α) (j:Nat) (c:α):Nat→α:=fun x=>if x=j then c else r x
theorem aN {α:Type} (r:Nat→α) (j:Nat) (c:α):upd r j c j=c:=by unfold upd;rw[if_pos rfl]
theorem bn {α:Type} {r:Nat→α} {j x:Nat} {c:α} (h:x≠j):upd r j c x=r x:=by unfold upd;rw[if_neg h]
section
variable {α:Type} (mu su qo:α→α→Option α) (pv:(Nat→Nat→α)→Nat→Nat→Option Nat)
def lpX (a b c:α):Option α:=(mu b c).bind fun t=>su a t
def jZ (t:α) (br:Nat→α):Nat→Nat→(Nat→α)→Option (Nat→α)
 |0,_,r=>some r
 |f+1,j,r=>(lpX mu su (r j) t (br j)).bind fun c=>jZ t br f (j+1) (upd r j c)
def gO (n k:Nat) (row br:Nat→α):Option (Nat→α):=(qo (row k) (br k)).bind fun t=>jZ mu su t br (n-k) (k+1) row
def gW (n k:Nat):Nat→Nat→(Nat→Nat→α)→Option (Nat→Nat→α)
 |0,_,M=>some M
 |f+1,i,M=>(gO mu su qo n k (M i) (M k)).bind fun r=>gW n k f (i+1) (upd M i r)
def dM (n:Nat):Nat→Nat→(Nat→Nat→α)→Option (Nat→Nat→α)
 |0,_,M=>some M
 |f+1,k,M=>(pv M n k).bind fun a=>(gW mu su qo n k (n-1-k) (k+1) (swapR M k a)).bind fun M'=>dM n f (k+1) M'
def iJ (row found:Nat→α):Nat→Nat→α→Option α
 |0,_,r=>some r
 |f+1,j,r=>(lpX mu su r (row j) (found j)).bind fun c=>iJ row found f (j+1) c
def fD (n:Nat) (M:Nat→Nat→α):Nat→(Nat→α)→Option (Nat→α)
 |0,g=>some g
 |i+1,g=>(iJ mu su (M i) g (n-1-i) (i+1) (M i n)).bind fun r=>(qo r (M i i)).bind fun c=>fD n M i (upd g i c)
def dC (n:Nat) (M:Nat→Nat→α) (z:Nat→α):Option (Nat→α):=(dM mu su qo pv n n 0 M).bind fun M'=>fD mu su qo n M' n z
end
structure hZ {α:Type} (mem:α→Rat→Prop) (mu su qo:α→α→Option α) (pv:(Nat→Nat→α)→Nat→Nat→Option Nat):Prop where
 mu:∀a b c x y,mu a b=some c→mem a x→mem b y→mem c (x*y)
 su:∀a b c x y,su a b=some c→mem a x→mem b y→mem c (x-y)
 qo:∀a b c x y,¬mem b 0→qo a b=some c→mem a x→mem b y→mem c (x / y)
 pv:∀M n k a,pv M n k=some a→k≤a∧a<n∧¬mem (M a k) 0
section
variable {α:Type} {mem:α→Rat→Prop} {mu su qo:α→α→Option α} {pv:(Nat→Nat→α)→Nat→Nat→Option Nat}
theorem BE (H:hZ mem mu su qo pv) {a b c d:α} {x y z:Rat} (h:lpX mu su a b c=some d) (hx:mem a x) (hy:mem b y) (hz:mem c z):mem d (x-y*z):=by
 unfold lpX at h;obtain⟨t,ht,h2⟩:=Option.bind_eq_some_iff.1 h;exact H.su _ _ _ _ _ h2 hx (H.mu _ _ _ _ _ ht hy hz)
theorem tF (H:hZ mem mu su qo pv) {t:α} {br:Nat→α} {T:Rat} {B:Nat→Rat} (ht:mem t T):∀(f j:Nat) (r r':Nat→α) (R:Nat→Rat),jZ mu su t br f j r=some r'→(∀x,j≤x→x<j+f→mem (br x) (B x))→(∀x,j≤x→x<j+f→mem (r x) (R x))→(∀x,j≤x→x<j+f→mem (r' x) (R x-T*B x))∧(∀x,x<j∨j+f≤x→r' x=r x)
 |0,j,r,r',R,h,_,_=>by
  obtain rfl:=Option.some.inj h;exact⟨fun x h1 h2=>absurd h1 (by omega),fun x _=>rfl⟩
 |f+1,j,r,r',R,h,hB,hR=>by
  obtain⟨c,hc,h2⟩:=Option.bind_eq_some_iff.1 h;have hm:=BE H hc (hR j (by omega) (by omega)) ht (hB j (by omega) (by omega));obtain⟨k1,k2⟩:=tF H ht f (j+1) (upd r j c) r' R h2 (fun x a b=>hB x (by omega) (by omega)) (fun x a b=>by rw[bn (by omega)];exact hR x (by omega) (by omega));refine⟨fun x a b=>?_,fun x a=>?_⟩
  ·by_cases hx:x=j
   ·subst hx;rw[k2 x (by omega),aN];exact hm
   ·exact k1 x (by omega) (by omega)
  ·rw[k2 x (by omega),bn (by omega)]
theorem CI (H:hZ mem mu su qo pv) {n k:Nat} {row br r':Nat→α} {R B:Nat→Rat} (hk:k≤n) (h:gO mu su qo n k row br=some r') (h0:¬mem (br k) 0) (hR:∀x,k≤x→x≤n→mem (row x) (R x)) (hB:∀x,k≤x→x≤n→mem (br x) (B x)):∀x,k<x→x≤n→mem (r' x) (R x-R k / B k*B x):=by
 obtain⟨t,ht,h2⟩:=Option.bind_eq_some_iff.1 h;have hm:=H.qo _ _ _ _ _ h0 ht (hR k (by omega) hk) (hB k (by omega) hk);obtain⟨k1,_⟩:=tF H hm (n-k) (k+1) row r' R h2 (fun x a b=>hB x (by omega) (by omega)) (fun x a b=>hR x (by omega) (by omega));exact fun x a b=>k1 x (by omega) (by omega)
theorem tQ (H:hZ mem mu su qo pv) {n k:Nat} (hk:k<n):∀(f i:Nat) (M M':Nat→Nat→α) (R:Nat→Nat→Rat),gW mu su qo n k f i M=some M'→k<i→i+f=n→¬mem (M k k) 0→(∀y x,(y=k∨i≤y)→y<n→k≤x→x≤n→mem (M y x) (R y x))→(∀y x,i≤y→y<n→k<x→x≤n→mem (M' y x) (R y x-R y k / R k k*R k x))∧(∀y,y<i→M' y=M y)
 |0,i,M,M',R,h,_,_,_,_=>by
  obtain rfl:=Option.some.inj h;exact⟨fun y x a b=>by omega,fun y _=>rfl⟩
 |f+1,i,M,M',R,h,hki,hin,h0,hR=>by
  obtain⟨r,hr,h2⟩:=Option.bind_eq_some_iff.1 h;have hm:=CI H (by omega) hr h0 (fun x a b=>hR i x (by omega) (by omega) a b) (fun x a b=>hR k x (by omega) (by omega) a b);have hM:∀y,y≠i→upd M i r y=M y:=fun y hy=>bn hy
  obtain⟨k1,k2⟩:=tQ H hk f (i+1) (upd M i r) M' R h2 (by omega) (by omega) (by rw[hM k (by omega)];exact h0) (fun y x a b c d=>by rw[hM y (by omega)];exact hR y x (by omega) b c d);refine⟨fun y x a b c d=>?_,fun y a=>?_⟩
  ·by_cases hy:y=i
   ·subst hy;rw[k2 y (by omega),aN];exact hm x c d
   ·exact k1 y x (by omega) b c d
  ·rw[k2 y (by omega),hM y (by omega)]
theorem ue (H:hZ mem mu su qo pv) {n:Nat} (hn:n≤4):∀(f k:Nat) (M M':Nat→Nat→α) (R:Nat→Nat→Rat),dM mu su qo pv n f k M=some M'→k+f=n→(∀y x,k≤y→y<n→k≤x→x≤n→mem (M y x) (R y x))→
  ∃R':Nat→Nat→Rat,(∀y x,k≤y→y<n→y≤x→x≤n→mem (M' y x) (R' y x))∧(∀y,k≤y→y<n→¬mem (M' y y) 0)∧(∀y,y<k→M' y=M y)∧detR f (fun i j=>R (k+i) (k+j))≠0∧
   (∀X:Nat→Rat,(∀y,k≤y→y<n→sumR f (fun j=>R y (k+j)*X (k+j))=R y n)→∀y,k≤y→y<n→sumR (n-y) (fun j=>R' y (y+j)*X (y+j))=R' y n)
 |0,k,M,M',R,h,hk,_=>by
  obtain rfl:=Option.some.inj h;refine⟨R,fun y x a b=>by omega,fun y a b=>by omega,fun y _=>rfl,?_,fun X _ y a b=>by omega⟩
  show(1:Rat)≠0;decide
 |f+1,k,M,M',R,h,hk,hR=>by
  obtain⟨a,ha,h1⟩:=Option.bind_eq_some_iff.1 h;obtain⟨M1,hM1,h2⟩:=Option.bind_eq_some_iff.1 h1;obtain⟨a1,a2,a3⟩:=H.pv _ _ _ _ ha
  have hs:∀y x,k≤y→y<n→k≤x→x≤n→mem (swapR M k a y x) (swapR R k a y x):=by
   intro y x b c d e;unfold swapR;by_cases hy:y=k
   ·rw[if_pos hy,if_pos hy];exact hR a x a1 a2 d e
   ·rw[if_neg hy,if_neg hy];by_cases hy2:y=a
    ·rw[if_pos hy2,if_pos hy2];exact hR k x (by omega) (by omega) d e
    ·rw[if_neg hy2,if_neg hy2];exact hR y x b c d e
  have hp:swapR M k a k=M a:=by unfold swapR;rw[if_pos rfl]
  have h0:¬mem (swapR M k a k k) 0:=by rw[hp];exact a3
  generalize hSM:swapR M k a=SM at*;have hSR:∀y,y≠k→y≠a→swapR R k a y=R y:=fun y b c=>by unfold swapR;rw[if_neg b,if_neg c]
  have hSRk:swapR R k a k=R a:=by unfold swapR;rw[if_pos rfl]
  have hSRa:swapR R k a a=R k:=by unfold swapR;by_cases hc:a=k<;>simp[hc]
  generalize hQ:swapR R k a=Q at*;obtain⟨t1,t2⟩:=tQ H (by omega) (n-1-k) (k+1) SM M1 Q hM1 (by omega) (by omega) h0 (fun y x b c d e=>hs y x (by omega) c d e)
  have hq0:Q k k≠0:=by
   intro hc;have:=hs k k (by omega) (by omega) (by omega) (by omega);rw[hc] at this;exact h0 this
  obtain⟨R',r1,r2,r3,r4,r5⟩:=ue H hn f (k+1) M1 M' (fun y x=>Q y x-Q y k / Q k k*Q k x) h2 (by omega) (fun y x b c d e=>t1 y x b c (by omega) e);have hrow:∀y,y≤k→M' y=SM y:=fun y hy=>by rw[r3 y (by omega),t2 y (by omega)]
  refine⟨fun y x=>if y=k then Q k x else R' y x,fun y x b c d e=>?_,fun y b c=>?_,fun y b=>?_,?_,fun X hX y b c=>?_⟩
  ·simp only;by_cases hy:y=k
   ·rw[if_pos hy,hy,hrow k (by omega)];exact hs k x (by omega) (by omega) (by omega) e
   ·rw[if_neg hy];exact r1 y x (by omega) c d e
  ·by_cases hy:y=k
   ·rw[hy,hrow k (by omega)];exact h0
   ·exact r2 y (by omega) c
  ·rw[hrow y (by omega),←hSM];unfold swapR;rw[if_neg (by omega),if_neg (by omega)]
  ·
   have hd:detR (f+1) (fun i j=>Q (k+i) (k+j))≠0:=by
    rw[DO (by omega) (fun i j=>Q (k+i) (k+j)) (fun i=>Q (k+(i+1)) k / Q k k) (fun i hi=>by simp only[Nat.add_zero];grind)];simp only[Nat.add_zero]
    have e:(fun i j=>Q (k+(i+1)) (k+(j+1))-Q (k+(i+1)) k / Q k k*Q k (k+(j+1)))=(fun i j=>(fun y x=>Q y x-Q y k / Q k k*Q k x) (k+1+i) (k+1+j)):=by
     funext i j
     simp only;rw[show k+(i+1)=k+1+i by omega,show k+(j+1)=k+1+j by omega]
    rw[e];intro hc;rcases Rat.mul_eq_zero.1 hc with hc|hc
    ·exact hq0 hc
    ·exact r4 hc
   by_cases hak:a=k
   ·have:Q=R:=by
     rw[←hQ,hak]
     funext y;unfold swapR
     by_cases hy:y=k
     ·rw[if_pos hy,hy]
     ·rw[if_neg hy,if_neg hy]
    rw[this] at hd;exact hd
   ·have e:(fun i j=>Q (k+i) (k+j))=swapR (fun i j=>R (k+i) (k+j)) 0 (a-k):=by
     funext i j
     rw[←hQ];unfold swapR;by_cases h1:i=0
     ·rw[if_pos (by omega),if_pos h1];simp only;rw[show k+(a-k)=a by omega]
     ·rw[if_neg (by omega),if_neg h1];by_cases h2:i=a-k
      ·rw[if_pos (by omega),if_pos h2];rfl
      ·rw[if_neg (by omega),if_neg h2]
    rw[e,D3 (by omega) (by omega) (by omega)] at hd;intro hc;rw[hc] at hd;exact hd (by decide)
  ·
   have hXQ:∀y,k≤y→y<n→sumR (f+1) (fun j=>Q y (k+j)*X (k+j))=Q y n:=by
    intro y b c;by_cases hy:y=k
    ·rw[hy,hSRk];exact hX a a1 a2
    ·by_cases hya:y=a
     ·rw[hya,hSRa];exact hX k (by omega) (by omega)
     ·rw[hSR y hy hya];exact hX y b c
   by_cases hy:y=k
   ·subst hy;simp only[if_pos];rw[show n-y=f+1 by omega];exact hXQ y (by omega) (by omega)
   ·simp only[if_neg hy];refine r5 X (fun y' b' c'=>?_) y (by omega) c;have e1:=hXQ y' (by omega) c';have e2:=hXQ k (by omega) (by omega);rw[gJ] at e1 e2;simp only[Nat.add_zero] at e1 e2;have e3:=wV (n:=f) (fun j=>Q y' (k+(j+1))*X (k+(j+1))) (fun j=>Q k (k+(j+1))*X (k+(j+1))) (Q y' k / Q k k)
    have e4:sumR f (fun j=>(Q y' (k+1+j)-Q y' k / Q k k*Q k (k+1+j))*X (k+1+j))=sumR f (fun j=>Q y' (k+(j+1))*X (k+(j+1))-Q y' k / Q k k*(Q k (k+(j+1))*X (k+(j+1)))):=by
     apply cX;intro j _;rw[show k+1+j=k+(j+1) by omega];grind
    show sumR f (fun j=>(Q y' (k+1+j)-Q y' k / Q k k*Q k (k+1+j))*X (k+1+j))=Q y' n-Q y' k / Q k k*Q k n
    rw[e4,e3];generalize sumR f (fun j=>Q y' (k+(j+1))*X (k+(j+1)))=S1 at*;generalize sumR f (fun j=>Q k (k+(j+1))*X (k+(j+1)))=S2 at*;grind
theorem tY (H:hZ mem mu su qo pv) {row g:Nat→α} {B X:Nat→Rat}:∀(f j:Nat) (r r':α) (x:Rat),iJ mu su row g f j r=some r'→(∀y,j≤y→y<j+f→mem (row y) (B y))→(∀y,j≤y→y<j+f→mem (g y) (X y))→mem r x→mem r' (x-sumR f (fun i=>B (j+i)*X (j+i)))
 |0,j,r,r',x,h,_,_,hx=>by
  obtain rfl:=Option.some.inj h
  show mem r (x-0)
  rwa [show x-0=x by grind]
 |f+1,j,r,r',x,h,hB,hX,hx=>by
  obtain⟨c,hc,h2⟩:=Option.bind_eq_some_iff.1 h;have hm:=BE H hc hx (hB j (by omega) (by omega)) (hX j (by omega) (by omega));have:=tY H f (j+1) c r' _ h2 (fun y a b=>hB y (by omega) (by omega)) (fun y a b=>hX y (by omega) (by omega)) hm;rw[gJ];simp only[Nat.add_zero]
  have e:sumR f (fun i=>B (j+(i+1))*X (j+(i+1)))=sumR f (fun i=>B (j+1+i)*X (j+1+i)):=by
   apply cX;intro i _;rw[show j+(i+1)=j+1+i by omega]
  rw[e];generalize sumR f (fun i=>B (j+1+i)*X (j+1+i))=S at*;rwa [show x-(B j*X j+S)=x-B j*X j-S by grind]
theorem qX (H:hZ mem mu su qo pv) {n:Nat} {M:Nat→Nat→α} {R:Nat→Nat→Rat} {X:Nat→Rat} (hR:∀y x,y<n→y≤x→x≤n→mem (M y x) (R y x)) (h0:∀y,y<n→¬mem (M y y) 0) (hX:∀y,y<n→sumR (n-y) (fun j=>R y (y+j)*X (y+j))=R y n):
  ∀(i:Nat) (g g':Nat→α),fD mu su qo n M i g=some g'→i≤n→(∀y,i≤y→y<n→mem (g y) (X y))→∀y,y<n→mem (g' y) (X y)
 |0,g,g',h,_,hg=>by
  obtain rfl:=Option.some.inj h;exact fun y hy=>hg y (by omega) hy
 |i+1,g,g',h,hi,hg=>by
  obtain⟨r,hr,h1⟩:=Option.bind_eq_some_iff.1 h;obtain⟨c,hc,h2⟩:=Option.bind_eq_some_iff.1 h1;have m1:=tY H (n-1-i) (i+1) _ _ _ hr (fun y a b=>hR i y (by omega) (by omega) (by omega)) (fun y a b=>hg y (by omega) (by omega)) (hR i n (by omega) (by omega) (by omega));have m2:=H.qo _ _ _ _ _ (h0 i (by omega)) hc m1 (hR i i (by omega) (by omega) (by omega));have hne:R i i≠0:=fun hz=>h0 i (by omega) (by have:=hR i i (by omega) (by omega) (by omega);rwa [hz] at this)
  have hxi:=hX i (by omega);rw[show n-i=(n-1-i)+1 by omega,gJ] at hxi;simp only[Nat.add_zero] at hxi
  have e:sumR (n-1-i) (fun j=>R i (i+(j+1))*X (i+(j+1)))=sumR (n-1-i) (fun j=>R i (i+1+j)*X (i+1+j)):=by
   apply cX;intro j _;rw[show i+(j+1)=i+1+j by omega]
  rw[e] at hxi;generalize sumR (n-1-i) (fun j=>R i (i+1+j)*X (i+1+j))=S at*;have hq:(R i n-S) / R i i=X i:=by grind
  rw[hq] at m2;refine qX H hR h0 hX i (upd g i c) g' h2 (by omega) (fun y a b=>?_);by_cases hy:y=i
  ·subst hy;rw[aN];exact m2
  ·rw[bn hy];exact hg y (by omega) b
theorem As (H:hZ mem mu su qo pv) {n:Nat} (hn:n≤4) {M:Nat→Nat→α} {z g:Nat→α} {R:Nat→Nat→Rat} (h:dC mu su qo pv n M z=some g) (hR:∀y x,y<n→x≤n→mem (M y x) (R y x)):
  detR n R≠0∧∀i,i<n→mem (g i) (detR n (eh R (fun y=>R y n) i) / detR n R):=by
 obtain⟨M',h1,h2⟩:=Option.bind_eq_some_iff.1 h;obtain⟨R',r1,r2,r3,r4,r5⟩:=ue H hn n 0 M M' R h1 (by omega) (fun y x _ a _ b=>hR y x a b);simp only[Nat.zero_add] at r4 r5;refine⟨r4,?_⟩;refine qX H (R:=R') (X:=fun i=>detR n (eh R (fun y=>R y n) i) / detR n R) (fun y x a b c=>r1 y x (by omega) a b c) (fun y a=>r2 y (by omega) a) (fun y a=>?_) n z g h2 ae (fun y a b=>by omega);refine r5 (fun i=>detR n (eh R (fun y=>R y n) i) / detR n R) (fun y' _ c=>?_) y (by omega) a;have:=ru hn R (fun y=>R y n) y' c
 have e:sumR n (fun j=>R y' j*(detR n (eh R (fun y=>R y n) j) / detR n R))=sumR n (fun j=>0-(-(1 / detR n R))*(R y' j*detR n (eh R (fun y=>R y n) j))):=by
  apply cX;intro j _;grind
 rw[e,wV,this]
 have z0:∀m,sumR m (fun _=>(0:Rat))=0:=by
  intro m
  induction m with
  |zero=>rfl
  |succ m ih=>show sumR m (fun _=>(0:Rat))+0=0;rw[ih];grind
 rw[z0];grind
end
end
section
def bd (B z:Rat):Prop:=-B≤z∧z≤B
theorem kl {B z:Rat} (h:bd B z):0≤B:=by unfold bd at h;grind
theorem cE {A B z:Rat} (h:bd A z) (hl:A≤B):bd B z:=by unfold bd at*;constructor<;>grind
theorem vU {A z:Rat} (h:bd A z):bd A (-z):=by unfold bd at*;constructor<;>grind
theorem iG {A B x y:Rat} (hx:bd A x) (hy:bd B y):bd (A+B) (x+y):=by unfold bd at*;constructor<;>grind
theorem mw {A B x y:Rat} (hx:bd A x) (hy:bd B y):bd (A+B) (x-y):=by unfold bd at*;constructor<;>grind
theorem js {A B x y:Rat} (hx:bd A x) (hy:bd B y):bd (A*B) (x*y):=by
 obtain⟨h1,h2⟩:=hx;obtain⟨h3,h4⟩:=hy;have p1:=Rat.mul_nonneg (a:=A-x) (b:=B+y) (by grind) (by grind);have p2:=Rat.mul_nonneg (a:=A+x) (b:=B-y) (by grind) (by grind);have p3:=Rat.mul_nonneg (a:=A-x) (b:=B-y) (by grind) (by grind);have p4:=Rat.mul_nonneg (a:=A+x) (b:=B+y) (by grind) (by grind);constructor<;>grind
theorem yJ {c h w y:Rat} (hh:0<h) (hy:h≤y∨y≤-h) (hb:bd (c*h) (w*y)):bd c w:=by
 have hc:0≤c:=by
  have:=kl hb;apply Decidable.byContradiction;intro hn;have:=Rat.mul_pos (a:=-c) (b:=h) (by grind) hh;grind
 obtain⟨h1,h2⟩:=hb;constructor
 ·apply Decidable.byContradiction;intro hn;rcases hy with hy|hy
  ·have p1:=Rat.mul_nonneg (a:=-c-w) (b:=y-h) (by grind) (by grind);have p2:=Rat.mul_pos (a:=-c-w) (b:=h) (by grind) hh;have p3:=Rat.mul_nonneg (a:=c) (b:=y-h) hc (by grind);grind
  ·have p1:=Rat.mul_nonneg (a:=-c-w) (b:=-y-h) (by grind) (by grind);have p2:=Rat.mul_pos (a:=-c-w) (b:=h) (by grind) hh;have p3:=Rat.mul_nonneg (a:=c) (b:=-y-h) hc (by grind);grind
 ·apply Decidable.byContradiction;intro hn;rcases hy with hy|hy
  ·have p1:=Rat.mul_nonneg (a:=w-c) (b:=y-h) (by grind) (by grind);have p2:=Rat.mul_pos (a:=w-c) (b:=h) (by grind) hh;have p3:=Rat.mul_nonneg (a:=c) (b:=y-h) hc (by grind);grind
  ·have p1:=Rat.mul_nonneg (a:=w-c) (b:=-y-h) (by grind) (by grind);have p2:=Rat.mul_pos (a:=w-c) (b:=h) (by grind) hh;have p3:=Rat.mul_nonneg (a:=c) (b:=-y-h) hc (by grind);grind
def ab (x:Rat):Rat:=if 0≤x then x else -x
theorem bw (x:Rat):(0≤x∧ab x=x)∨(x<0∧ab x=-x):=by
 unfold ab;split
 ·left;grind
 ·right;grind
theorem eI (x:Rat):0≤ab x:=by have:=bw x;grind
theorem nK (x:Rat):bd (ab x) x:=by have:=bw x;unfold bd;grind
theorem jV {B x:Rat} (h:bd B x):ab x≤B:=by have:=bw x;unfold bd at h;grind
theorem kW {B x:Rat} (h:ab x≤B):bd B x:=cE (nK x) h
theorem oe (x y:Rat):ab (x*y)=ab x*ab y:=by
 rcases bw x with⟨h1,e1⟩|⟨h1,e1⟩<;>rcases bw y with⟨h2,e2⟩|⟨h2,e2⟩<;>rw[e1,e2]
 ·have:=Rat.mul_nonneg h1 h2;have:=bw (x*y);grind
 ·have:=Rat.mul_nonneg h1 (show 0≤-y by grind);have:=bw (x*y);grind
 ·have:=Rat.mul_nonneg (show 0≤-x by grind) h2;have:=bw (x*y);grind
 ·have:=Rat.mul_nonneg (show 0≤-x by grind) (show 0≤-y by grind);have:=bw (x*y);grind
theorem Bl (x y:Rat):ab (x-y)≤ab x+ab y:=jV (mw (nK x) (nK y))
theorem Cm (x y:Rat):ab x-ab y≤ab (x-y):=by
 have:=bw x;have:=bw y;have:=bw (x-y);grind
theorem Cr {x:Rat} (h:x≠0):0<ab x:=by have:=bw x;grind
theorem fO:ab 0=0:=by have:=bw 0;grind
def eps:Rat:=1 / 4503599627370496
structure Rnd (eta e z:Rat):Prop where
 near:∀B,bd B z→bd (eps*B+eta) (e-z)
 zero:z=0→e=0
theorem Rnd.at {eta e z S:Rat} (h:Rnd eta e z) (hz:bd (2*S) z) (hS:S=0∨eta≤eps*S):bd (3*eps*S) (e-z):=by
 rcases hS with hS|hS
 ·have:z=0:=by subst hS;unfold bd at hz;grind
  rw[h.zero this,this,hS];unfold bd;constructor<;>grind
 ·exact cE (h.near _ hz) (by grind)
section
variable {α:Type} (lo hi:α→Rat)
def Nr (a:α) (A d:Rat):Prop:=bd d (lo a-A)∧bd d (hi a-A)
def bx (a:α) (x:Rat):Prop:=x=lo a∨x=hi a
def Ee (a:α) (x:Rat):Prop:=lo a≤x∧x≤hi a
variable {lo hi}
theorem Nr.at {a:α} {A d x:Rat} (h:Nr lo hi a A d) (hx:bx lo hi a x):bd d (x-A):=by
 rcases hx with rfl|rfl
 ·exact h.1
 ·exact h.2
theorem Nr.of {a:α} {A d:Rat} (h:∀x,bx lo hi a x→bd d (x-A)):Nr lo hi a A d:=⟨h _ (Or.inl rfl),h _ (Or.inr rfl)⟩
theorem Nr.le {a:α} {A d e:Rat} (h:Nr lo hi a A d) (hl:d≤e):Nr lo hi a A e:=⟨cE h.1 hl,cE h.2 hl⟩
theorem Nr.end {a:α} {A d x P:Rat} (h:Nr lo hi a A d) (hx:bx lo hi a x) (hA:bd P A):bd (P+d) x:=by
 have:=iG hA (h.at hx);rwa [show A+(x-A)=x by grind] at this
structure EY (M:Nat→Nat→α) (n k:Nat):Prop where
 here:∃L,0<L∧((∀x,bx lo hi (M k k) x→L≤x)∨(∀x,bx lo hi (M k k) x→x≤-L))∧∀j x,k≤j→j<n→bx lo hi (M k j) x→bd (2*L) x
 there:∀i,k<i→i<n→∃L,0<L∧(∀x,bx lo hi (M i k) x→bd L x)∧((∀x,bx lo hi (M i i) x→2*L≤x)∨(∀x,bx lo hi (M i i) x→x≤-(2*L)))
structure ku (lo hi:α→Rat) (eta Big:Rat) (mu su qo:α→α→Option α) (pv:(Nat→Nat→α)→Nat→Nat→Option Nat) (ok:α→Prop):Prop where
 mu:∀a b B,ok a→ok b→(∀x y,bx lo hi a x→bx lo hi b y→bd B (x*y))→B≤Big→∃c,mu a b=some c∧ok c∧∀e,bx lo hi c e→∃x y,bx lo hi a x∧bx lo hi b y∧Rnd eta e (x*y)
 su:∀a b B,ok a→ok b→(∀x y,bx lo hi a x→bx lo hi b y→bd B (x-y))→B≤Big→∃c,su a b=some c∧ok c∧∀e,bx lo hi c e→∃x y,bx lo hi a x∧bx lo hi b y∧Rnd eta e (x-y)
 qo:∀a b B,ok a→ok b→¬Ee lo hi b 0→(∀x y,bx lo hi a x→bx lo hi b y→bd B (x / y))→B≤Big→∃c,qo a b=some c∧ok c∧∀e,bx lo hi c e→∃x y,bx lo hi a x∧bx lo hi b y∧Rnd eta e (x / y)
 pv:∀M n k,k<n→(∀i j,k≤i→i<n→k≤j→j<n→ok (M i j))→EY (lo:=lo) (hi:=hi) M n k→pv M n k=some k
end
section
variable {α:Type} {lo hi:α→Rat} {eta Big:Rat} {mu su qo:α→α→Option α} {pv:(Nat→Nat→α)→Nat→Nat→Option Nat} {ok:α→Prop}
theorem wn (H:ku lo hi eta Big mu su qo pv ok) {a b:α} {A B P Q d e S:Rat} (oa:ok a) (ob:ok b) (ha:Nr lo hi a A d) (hb:Nr lo hi b B e) (hA:bd P A) (hB:bd Q B) (hS:P*Q+(P*e+Q*d+d*e)≤2*S) (h0:S=0∨eta≤eps*S) (hG:2*S≤Big):
  ∃c,mu a b=some c∧ok c∧Nr lo hi c (A*B) (P*e+Q*d+d*e+3*eps*S):=by
 have key:∀x y,bx lo hi a x→bx lo hi b y→bd (P*e+Q*d+d*e) (x*y-A*B):=by
  intro x y hx hy;have h1:=js (ha.at hx) (hb.at hy);have h2:=js hA (hb.at hy);have h3:=js hB (ha.at hx);have:=iG (iG h2 h3) h1;rwa [show A*(y-B)+B*(x-A)+(x-A)*(y-B)=x*y-A*B by grind] at this
 have big:∀x y,bx lo hi a x→bx lo hi b y→bd (2*S) (x*y):=by
  intro x y hx hy;have:=iG (js hA hB) (key x y hx hy);rw[show A*B+(x*y-A*B)=x*y by grind] at this;exact cE this hS
 obtain⟨c,hc,oc,he⟩:=H.mu a b (2*S) oa ob big hG;refine⟨c,hc,oc,Nr.of fun x hx=>?_⟩;obtain⟨y,z,hy,hz,hr⟩:=he x hx;have:=iG (hr.at (big y z hy hz) h0) (key y z hy hz);rw[show x-y*z+(y*z-A*B)=x-A*B by grind] at this;exact cE this (by grind)
theorem xG (H:ku lo hi eta Big mu su qo pv ok) {a b:α} {A B P Q d e S:Rat} (oa:ok a) (ob:ok b) (ha:Nr lo hi a A d) (hb:Nr lo hi b B e) (hA:bd P A) (hB:bd Q B) (hS:P+Q+d+e≤2*S) (h0:S=0∨eta≤eps*S) (hG:2*S≤Big):
  ∃c,su a b=some c∧ok c∧Nr lo hi c (A-B) (d+e+3*eps*S):=by
 have key:∀x y,bx lo hi a x→bx lo hi b y→bd (d+e) (x-y-(A-B)):=by
  intro x y hx hy;have:=mw (ha.at hx) (hb.at hy);rwa [show x-A-(y-B)=x-y-(A-B) by grind] at this
 have big:∀x y,bx lo hi a x→bx lo hi b y→bd (2*S) (x-y):=by
  intro x y hx hy;have:=iG (mw hA hB) (key x y hx hy);rw[show A-B+(x-y-(A-B))=x-y by grind] at this;exact cE this (by grind)
 obtain⟨c,hc,oc,he⟩:=H.su a b (2*S) oa ob big hG;refine⟨c,hc,oc,Nr.of fun x hx=>?_⟩;obtain⟨y,z,hy,hz,hr⟩:=he x hx;have:=iG (hr.at (big y z hy hz) h0) (key y z hy hz);rw[show x-(y-z)+(y-z-(A-B))=x-(A-B) by grind] at this;exact cE this (by grind)
theorem Bj (H:ku lo hi eta Big mu su qo pv ok) {a b:α} {A B Q d e g L S:Rat} (oa:ok a) (ob:ok b) (ha:Nr lo hi a A d) (hb:Nr lo hi b B e) (hL:0<L) (hBL:L≤B∨B≤-L) (he:e≤L / 2) (hQ:bd Q (A / B)) (hg:d+Q*e≤g*(L / 2)) (hS:Q+g≤2*S) (h0:S=0∨eta≤eps*S) (hG:2*S≤Big):
  ¬Ee lo hi b 0∧∃c,qo a b=some c∧ok c∧Nr lo hi c (A / B) (g+3*eps*S):=by
 have hB0:B≠0:=by rcases hBL with h|h<;>grind
 have far:∀y,bx lo hi b y→L / 2≤y∨y≤-(L / 2):=by
  intro y hy;have:=hb.at hy;unfold bd at this;rcases hBL with h|h
  ·left;grind
  ·right;grind
 have out:¬Ee lo hi b 0:=by
  rintro⟨m1,m2⟩;have f1:=hb.1;have f2:=hb.2;unfold bd at f1 f2;rcases hBL with h|h<;>grind
 have key:∀x y,bx lo hi a x→bx lo hi b y→bd g (x / y-A / B):=by
  intro x y hx hy;have hy0:y≠0:=by rcases far y hy with h|h<;>grind
  refine yJ (h:=L / 2) (by grind) (far y hy) ?_;have:=mw (ha.at hx) (js hQ (hb.at hy));rw[show x-A-A / B*(y-B)=(x / y-A / B)*y by grind] at this;exact cE this hg
 have big:∀x y,bx lo hi a x→bx lo hi b y→bd (2*S) (x / y):=by
  intro x y hx hy;have:=iG hQ (key x y hx hy);rw[show A / B+(x / y-A / B)=x / y by grind] at this;exact cE this hS
 obtain⟨c,hc,oc,hx⟩:=H.qo a b (2*S) oa ob out big hG;refine⟨out,c,hc,oc,Nr.of fun x hx'=>?_⟩;obtain⟨y,z,hy,hz,hr⟩:=hx x hx';have:=iG (hr.at (big y z hy hz) h0) (key y z hy hz);rw[show x-y / z+(y / z-A / B)=x-A / B by grind] at this;exact cE this (by grind)
end
end
section
theorem aV {a x y:Rat} (ha:0≤a) (h:x≤y):a*x≤a*y:=Rat.mul_le_mul_of_nonneg_left h ha
theorem bu {a x y:Rat} (ha:0≤a) (h:x≤y):x*a≤y*a:=by
 have:=aV ha h;grind
theorem kX {a b x y:Rat} (ha:0≤a) (hx:0≤x) (h1:a≤b) (h2:x≤y):a*x≤b*y:=by
 have p1:=bu hx h1;have p2:=aV (a:=b) (by grind) h2;grind
theorem qV {f:Nat→Rat} (hf:∀j,0≤f j):∀n,0≤sumR n f
 |0=>by show(0:Rat)≤0;grind
 |n+1=>by have:=qV hf n;have:=hf n;show 0≤sumR n f+f n;grind
theorem sF {f:Nat→Rat} (hf:∀j,0≤f j) {i:Nat}:∀n,i<n→f i≤sumR n f
 |0,h=>by omega
 |n+1,h=>by
  show f i≤sumR n f+f n
  by_cases hi:i=n
  ·subst hi;have:=qV hf i;grind
  ·have:=sF hf n (show i<n by omega);have:=hf n;grind
theorem zM {f:Nat→Rat} (hf:∀j,0≤f j) {i j:Nat} (hij:i≠j):∀n,i<n→j<n→f i+f j≤sumR n f
 |0,h,_=>by omega
 |n+1,h,h'=>by
  show f i+f j≤sumR n f+f n
  by_cases hi:i=n
  ·subst hi;have:=sF hf i (show j<i by omega);grind
  ·by_cases hj:j=n
   ·subst hj;have:=sF hf j (show i<j by omega);grind
   ·have:=zM hf hij n (show i<n by omega) (show j<n by omega);have:=hf n;grind
theorem yZ {g h:Nat→Rat} (t:Rat):∀n,sumR n (fun j=>ab (g j-t*h j))≤sumR n (fun j=>ab (g j))+ab t*sumR n (fun j=>ab (h j))
 |0=>by show(0:Rat)≤0+ab t*0;grind
 |n+1=>by
  have:=yZ (g:=g) (h:=h) t n;have h1:=Bl (g n) (t*h n);rw[oe] at h1
  show sumR n (fun j=>ab (g j-t*h j))+ab (g n-t*h n)≤(sumR n (fun j=>ab (g j))+ab (g n))+ab t*(sumR n (fun j=>ab (h j))+ab (h n))
  grind
def dI:Rat:=1 / 1606938044258990275541962092341162602522202993782792835301376
def gu:Rat:=1606938044258990275541962092341162602522202993782792835301376
section
variable {α:Type} {mu su qo:α→α→Option α}
theorem qY {t:α} {br:Nat→α} {P:Nat→α→Prop}:∀(f j:Nat) (r:Nat→α),(∀x,j≤x→x<j+f→∃c,lpX mu su (r x) t (br x)=some c∧P x c)→∃r',jZ mu su t br f j r=some r'∧(∀x,j≤x→x<j+f→P x (r' x))∧(∀x,x<j∨j+f≤x→r' x=r x)
 |0,j,r,_=>⟨r,rfl,fun x a b=>by omega,fun x _=>rfl⟩
 |f+1,j,r,h=>by
  obtain⟨c,hc,hp⟩:=h j (by omega) (by omega);obtain⟨r',h1,h2,h3⟩:=qY f (j+1) (upd r j c) (fun x a b=>by rw[bn (by omega)];exact h x (by omega) (by omega));refine⟨r',?_,fun x a b=>?_,fun x a=>?_⟩
  ·show(lpX mu su (r j) t (br j)).bind _=_
   rw[hc];exact h1
  ·by_cases hx:x=j
   ·subst hx;rw[h3 x (by omega),aN];exact hp
   ·exact h2 x (by omega) (by omega)
  ·rw[h3 x (by omega),bn (by omega)]
theorem rW {n k:Nat} {P:Nat→(Nat→α)→Prop}:∀(f i:Nat) (M:Nat→Nat→α),k<i→(∀y,i≤y→y<i+f→∃r,gO mu su qo n k (M y) (M k)=some r∧P y r)→∃M',gW mu su qo n k f i M=some M'∧(∀y,i≤y→y<i+f→P y (M' y))∧(∀y,y<i∨i+f≤y→M' y=M y)
 |0,i,M,_,_=>⟨M,rfl,fun x a b=>by omega,fun x _=>rfl⟩
 |f+1,i,M,hk,h=>by
  obtain⟨c,hc,hp⟩:=h i (by omega) (by omega);obtain⟨r',h1,h2,h3⟩:=rW (n:=n) (k:=k) (P:=P) f (i+1) (upd M i c) (by omega) (fun x a b=>by rw[show upd M i c x=M x from bn (by omega),show upd M i c k=M k from bn (by omega)];exact h x (by omega) (by omega));refine⟨r',?_,fun x a b=>?_,fun x a=>?_⟩
  ·show(gO mu su qo n k (M i) (M k)).bind _=_
   rw[hc];exact h1
  ·by_cases hx:x=i
   ·subst hx;rw[h3 x (by omega),aN];exact hp
   ·exact h2 x (by omega) (by omega)
  ·rw[h3 x (by omega),bn (by omega)]
end
theorem eC:0<eps:=by unfold eps;grind
theorem mB:eps≤1 / 1000000000000:=by unfold eps;grind
section
variable {α:Type} {lo hi:α→Rat} {eta Big:Rat} {mu su qo:α→α→Option α} {pv:(Nat→Nat→α)→Nat→Nat→Option Nat} {ok:α→Prop}
theorem sU {S:Rat} (he:eta≤eps*dI) (h:dI≤S):S=0∨eta≤eps*S:=by
 right;have:=aV (Rat.le_of_lt eC) h;grind
theorem FJ (H:ku lo hi eta Big mu su qo pv ok) {a b t:α} {A B T Di Dk tau u v:Rat} (oa:ok a) (ob:ok b) (ot:ok t) (ht:Nr lo hi t T (tau*v)) (hT:bd (tau*(1 / 4)) T) (hb:Nr lo hi b B (Dk*u)) (hB:bd (Dk*(1 / 4)) B) (ha:Nr lo hi a A (Di*u)) (hA:bd Di A) (htD:tau*Dk=Di)
  (u0:0≤u) (u1:u≤1 / 100) (hv:v=5 / 2*u+3*eps) (he:eta≤eps*dI) (hD:dI≤Di) (hG:2*Di≤Big):
  ∃c,lpX mu su a t b=some c∧ok c∧Nr lo hi c (A-T*B) (Di*(2*u+8*eps)):=by
 have e0:=eC;have e1:=mB;have d0:0≤Di:=by unfold dI at hD;grind
 have v0:0≤v:=by grind
 have uv:=bu v0 u1;have uv0:=Rat.mul_nonneg u0 v0;have E1:tau*(1 / 4)*(Dk*u)+Dk*(1 / 4)*(tau*v)+tau*v*(Dk*u)=Di*(u / 4+v / 4+u*v):=by rw[←htD];grind
 have E2:tau*(1 / 4)*(Dk*(1 / 4))=Di*(1 / 16):=by rw[←htD];grind
 have L1:=aV (a:=Di) d0 (show u / 4+v / 4+u*v≤1 by grind);obtain⟨p,hp,op,np⟩:=wn H (S:=Di) ot ob ht hb hT hB (by rw[E1,E2];grind) (sU he hD) hG;rw[E1] at np;have hTB:bd (Di*(1 / 16)) (T*B):=by have:=js hT hB;rwa [E2] at this
 have L2:=aV (a:=Di) d0 (show u+(u / 4+v / 4+u*v)+3*eps≤1 / 2 by grind);obtain⟨c,hc,oc,nc⟩:=xG H (S:=Di) oa op ha np hA hTB (by grind) (sU he hD) hG;refine⟨c,by unfold lpX;rw[hp];exact hc,oc,nc.le ?_⟩;have L3:=aV (a:=Di) d0 (show u+(u / 4+v / 4+u*v)+6*eps≤2*u+8*eps by grind);grind
theorem DQ (H:ku lo hi eta Big mu su qo pv ok) {a b t:α} {A B T Di Dk V tau u v:Rat} (oa:ok a) (ob:ok b) (ot:ok t) (ht:Nr lo hi t T (tau*v)) (hT:bd (tau*(1 / 4)) T) (hb:Nr lo hi b B (Dk*V*u)) (hB:bd (Dk*V) B) (ha:Nr lo hi a A (Di*V*u)) (hA:bd (Di*V) A) (htD:tau*Dk=Di)
  (u0:0≤u) (u1:u≤1 / 100) (hv:v=5 / 2*u+3*eps) (d0:0≤Di*V) (hD:Di*V=0∨eta≤eps*(Di*V)) (hG:2*(Di*V)≤Big):
  ∃c,lpX mu su a t b=some c∧ok c∧Nr lo hi c (A-T*B) (Di*V*(4*u+12*eps)):=by
 have e0:=eC;have e1:=mB;have v0:0≤v:=by grind
 have uv:=bu v0 u1;have uv0:=Rat.mul_nonneg u0 v0;have E1:tau*(1 / 4)*(Dk*V*u)+Dk*V*(tau*v)+tau*v*(Dk*V*u)=Di*V*(u / 4+v+u*v):=by rw[←htD];grind
 have E2:tau*(1 / 4)*(Dk*V)=Di*V*(1 / 4):=by rw[←htD];grind
 generalize hE:Di*V=E at*;have L1:=aV (a:=E) d0 (show u / 4+v+u*v≤1 by grind);obtain⟨p,hp,op,np⟩:=wn H (S:=E) ot ob ht hb hT hB (by rw[E1,E2];grind) hD hG;rw[E1] at np;have hTB:bd (E*(1 / 4)) (T*B):=by have:=js hT hB;rwa [E2] at this
 have L2:=aV (a:=E) d0 (show u+(u / 4+v+u*v)+3*eps≤1 / 2 by grind);obtain⟨c,hc,oc,nc⟩:=xG H (S:=E) oa op ha np hA hTB (by grind) hD hG;refine⟨c,by unfold lpX;rw[hp];exact hc,oc,nc.le ?_⟩;have L3:=aV (a:=E) d0 (show u+(u / 4+v+u*v)+6*eps≤4*u+12*eps by grind);grind
end
end
section
section
variable {α:Type} (lo hi:α→Rat) (ok:α→Prop)
structure fm (n k:Nat) (M:Nat→Nat→α) (R:Nat→Nat→Rat) (u V Dl Dh:Rat):Prop where
 oks:∀i j,k≤i→i<n→k≤j→j≤n→ok (M i j)
 low:∀i,k≤i→i<n→Dl≤ab (R i i)
 high:∀i,k≤i→i<n→ab (R i i)≤Dh
 dom:∀i,k≤i→i<n→sumR (n-k) (fun j=>ab (R i (k+j)))≤5 / 4*ab (R i i)
 near:∀i j,k≤i→i<n→k≤j→j<n→Nr lo hi (M i j) (R i j) (ab (R i i)*u)
 rnear:∀i,k≤i→i<n→Nr lo hi (M i n) (R i n) (ab (R i i)*V*u)
 rbd:∀i,k≤i→i<n→bd (ab (R i i)*V) (R i n)
end
section
variable {α:Type} {lo hi:α→Rat} {ok:α→Prop} {n k:Nat} {M:Nat→Nat→α} {R:Nat→Nat→Rat} {u V Dl Dh:Rat}
theorem fm.off (s:fm lo hi ok n k M R u V Dl Dh) {i j:Nat} (h1:k≤i) (h2:i<n) (h3:k≤j) (h4:j<n) (hij:i≠j):bd (ab (R i i)*(1 / 4)) (R i j):=by
 have h:=zM (f:=fun x=>ab (R i (k+x))) (fun x=>eI _) (i:=i-k) (j:=j-k) (by omega) (n-k) (by omega) (by omega);simp only[show k+(i-k)=i by omega,show k+(j-k)=j by omega] at h;have:=s.dom i h1 h2;exact kW (by grind)
theorem fm.all (s:fm lo hi ok n k M R u V Dl Dh) {i j:Nat} (h1:k≤i) (h2:i<n) (h3:k≤j) (h4:j<n):bd (ab (R i i)) (R i j):=by
 by_cases hij:i=j
 ·subst hij;exact nK _
 ·have h0:=eI (R i i);exact cE (s.off h1 h2 h3 h4 hij) (by grind)
theorem wH {a:α} {A d:Rat} (h:Nr lo hi a A d):(∀x,bx lo hi a x→ab A-d≤x)∨(∀x,bx lo hi a x→x≤-(ab A-d)):=by
 rcases bw A with⟨_,e⟩|⟨_,e⟩
 ·left;intro x hx;have:=h.at hx;unfold bd at this;grind
 ·right;intro x hx;have:=h.at hx;unfold bd at this;grind
theorem fm.piv (s:fm lo hi ok n k M R u V Dl Dh) (hk:k<n) (hl:0<Dl) (u0:0≤u) (u1:u≤1 / 100):EY (lo:=lo) (hi:=hi) M n k:=by
 constructor
 ·have hD:=s.low k (by omega) hk;generalize hDk:ab (R k k)=Dk at*;have f:=wH (s.near k k (by omega) hk (by omega) hk);rw[hDk] at f;have d0:0≤Dk:=by grind
  have p1:=aV d0 u1;refine⟨Dk-Dk*u,by grind,f,fun j x h1 h2 hx=>?_⟩;have a:=s.all (i:=k) (j:=j) (by omega) hk h1 h2;have:=(s.near k j (by omega) hk h1 h2).end hx a;rw[hDk] at this;exact cE this (by grind)
 ·intro i hi1 hi2;have hD:=s.low i (by omega) hi2;have f:=wH (s.near i i (by omega) hi2 (by omega) hi2);have a:=s.off (i:=i) (j:=k) (by omega) hi2 (by omega) hk (by omega);have b:=fun x hx=>(s.near i k (by omega) hi2 (by omega) hk).end (x:=x) hx a
  generalize hDi:ab (R i i)=Di at*;have d0:0≤Di:=by grind
  have p0:=Rat.mul_nonneg d0 u0;have p1:=aV d0 u1;refine⟨Di*(1 / 4)+Di*u,by grind,b,?_⟩;rcases f with f|f
  ·left;intro x hx;have:=f x hx;grind
  ·right;intro x hx;have:=f x hx;grind
theorem zS {Di Dk a b:Rat} (ha:0<a) (h1:a≤Di) (h2:a≤Dk) (h3:Di≤b) (h4:Dk≤b):a / b≤Di / Dk∧Di / Dk≤b / a:=by
 have hb:0<b:=by grind
 have hk:0<Dk:=by grind
 constructor
 ·apply Decidable.byContradiction;intro hc;have p1:=Rat.mul_pos (show 0<a / b-Di / Dk by grind) hk;have e1:a / b*b=a:=by grind
  have e2:Di / Dk*Dk=Di:=by grind
  have q:0≤a / b:=by
   apply Decidable.byContradiction;intro hn;have:=Rat.mul_pos (show 0< -(a / b) by grind) hb;grind
  have p2:=aV q h4;grind
 ·apply Decidable.byContradiction;intro hc;have p1:=Rat.mul_pos (show 0<Di / Dk-b / a by grind) hk;have e1:b / a*a=b:=by grind
  have e2:Di / Dk*Dk=Di:=by grind
  have q:0≤b / a:=by
   apply Decidable.byContradiction;intro hn;have:=Rat.mul_pos (show 0< -(b / a) by grind) ha;grind
  have p2:=aV q h2;grind
end
def fA:Rat:=1 / 17179869184
def fS:Rat:=17179869184
def d8:Rat:=1 / 18446744073709551616
def fT:Rat:=18446744073709551616
section
variable {α:Type} {lo hi:α→Rat} {eta Big:Rat} {mu su qo:α→α→Option α} {pv:(Nat→Nat→α)→Nat→Nat→Option Nat} {ok:α→Prop}
 {n k:Nat} {M:Nat→Nat→α} {R:Nat→Nat→Rat} {u V Dl Dh:Rat}
theorem fm.row (H:ku lo hi eta Big mu su qo pv ok) (s:fm lo hi ok n k M R u V Dl Dh) (hk:k<n) {i:Nat} (hi1:k<i) (hi2:i<n) (hl:fA≤Dl) (hh:Dh≤fS) (u0:0≤u) (u1:u≤1 / 100) (hV:V=0∨d8≤V) (hV2:V≤fT) (he:eta≤eps*dI) (hG:gu≤Big):
  ∃r,gO mu su qo n k (M i) (M k)=some r∧(∀j,k<j→j≤n→ok (r j))∧(∀j,k<j→j<n→Nr lo hi (r j) (R i j-R i k / R k k*R k j) (ab (R i i)*(2*u+8*eps)))∧Nr lo hi (r n) (R i n-R i k / R k k*R k n) (ab (R i i)*V*(4*u+12*eps)):=by
 have e0:=eC;have e1:=mB;have Di1:=s.low i (by omega) hi2;have Di2:=s.high i (by omega) hi2;have Dk1:=s.low k (by omega) hk;have Dk2:=s.high k (by omega) hk;have hdl:0<fA:=by unfold fA;grind
 have offk:=s.off (i:=i) (j:=k) (by omega) hi2 (by omega) hk (by omega);have nik:=s.near i k (by omega) hi2 (by omega) hk;have nkk:=s.near k k (by omega) hk (by omega) hk;have hkk:=bw (R k k);have hk0:R k k≠0:=by intro hc;rw[hc,fO] at Dk1;grind
 have eT:R i k / R k k*R k k=R i k:=by grind
 have abT:ab (R i k / R k k)*ab (R k k)=ab (R i k):=by rw[←oe,eT]
 have hik:=jV offk;have sk:=fun j (a:k<j) (b:j<n)=>s.off (by omega) hk (by omega) b (by omega)
 have nkj:=fun j (a:k<j) (b:j<n)=>s.near k j (by omega) hk (by omega) b
 have nij:=fun j (a:k<j) (b:j<n)=>s.near i j (by omega) hi2 (by omega) b
 have aij:=fun j (a:k<j) (b:j<n)=>s.all (by omega) hi2 (by omega) b
 have rk:=s.rnear k (by omega) hk;have rkb:=s.rbd k (by omega) hk;have ri:=s.rnear i (by omega) hi2;have rib:=s.rbd i (by omega) hi2;generalize hDi:ab (R i i)=Di at*;generalize hDk:ab (R k k)=Dk at*;obtain⟨t1,t2⟩:=zS (Di:=Di) (Dk:=Dk) hdl (by grind) (by grind) (show Di≤fS by grind) (show Dk≤fS by grind);have htD:Di / Dk*Dk=Di:=by grind
 generalize Di / Dk=tau at*;have hDk0:0<Dk:=by grind
 have tl:dI≤tau:=by unfold dI fA fS at*;grind
 have tb:2*tau≤Big:=by unfold gu fA fS at*;grind
 have hT:bd (tau*(1 / 4)) (R i k / R k k):=by
  apply kW;apply Decidable.byContradiction;intro hc;have:=Rat.mul_pos (show 0<ab (R i k / R k k)-tau*(1 / 4) by grind) hDk0;grind
 have p1:=aV (Rat.le_of_lt hDk0) u1;have tau0:0≤tau:=by unfold dI at tl;grind
 have p2:=aV tau0 u1
 obtain⟨_,t,ht,ot,nt⟩:=Bj H (Q:=tau*(1 / 4)) (g:=tau*(5 / 2*u)) (L:=Dk) (S:=tau) (s.oks i k (by omega) hi2 (by omega) (by omega)) (s.oks k k (by omega) hk (by omega) (by omega)) nik nkk hDk0 (by rcases hkk with⟨_,h⟩|⟨_,h⟩<;>grind) (by grind) hT
  (by rw[show tau*(5 / 2*u)*(Dk / 2)=tau*Dk*(5 / 4*u) by grind,show tau*(1 / 4)*(Dk*u)=tau*Dk*(1 / 4*u) by grind,htD];grind) (by grind) (sU he tl) tb
 have nt':Nr lo hi t (R i k / R k k) (tau*(5 / 2*u+3*eps)):=nt.le (by grind);have hDt:dI≤Di:=by unfold dI fA at*;grind
 have hDb:2*Di≤Big:=by unfold gu fS at*;grind
 have hE0:0≤Di*V:=by
  rcases hV with h|h
  ·rw[h];grind
  ·exact Rat.mul_nonneg (by grind) (by unfold d8 at h;grind)
 have hE1:Di*V=0∨eta≤eps*(Di*V):=by
  rcases hV with h|h
  ·left;rw[h];grind
  ·refine sU he ?_;have:=kX (a:=fA) (b:=Di) (x:=d8) (y:=V) (by grind) (by unfold d8;grind) (by grind) h;unfold dI fA d8 at*;grind
 have hE2:2*(Di*V)≤Big:=by
  have hV0:0≤V:=by rcases hV with h|h<;>(unfold d8 at*;grind)
  have:=kX (a:=Di) (b:=fS) (x:=V) (y:=fT) (by grind) hV0 (by grind) hV2;unfold gu fS fT at*;grind
 obtain⟨r,h1,h2,_⟩:=qY (mu:=mu) (su:=su) (t:=t) (br:=M k) (P:=fun j c=>ok c∧(j<n→Nr lo hi c (R i j-R i k / R k k*R k j) (Di*(2*u+8*eps)))∧(j=n→Nr lo hi c (R i n-R i k / R k k*R k n) (Di*V*(4*u+12*eps)))) (n-k) (k+1) (M i) (by
  intro j a b;by_cases hj:j=n
  ·subst hj;obtain⟨c,hc,oc,nc⟩:=DQ H (s.oks i j (by omega) hi2 (by omega) (by omega)) (s.oks k j (by omega) hk (by omega) (by omega)) ot nt' hT rk rkb ri rib htD u0 u1 rfl hE0 hE1 hE2;exact⟨c,hc,oc,fun h=>by omega,fun _=>nc⟩
  ·have hjn:j<n:=by omega
   obtain⟨c,hc,oc,nc⟩:=FJ H (s.oks i j (by omega) hi2 (by omega) (by omega)) (s.oks k j (by omega) hk (by omega) (by omega)) ot nt' hT (nkj j (by omega) hjn) (sk j (by omega) hjn) (nij j (by omega) hjn) (aij j (by omega) hjn) htD u0 u1 rfl he hDt hDb;exact⟨c,hc,oc,fun _=>nc,fun h=>absurd h hj⟩)
 refine⟨r,by unfold gO;rw[ht];exact h1,fun j a b=>(h2 j (by omega) (by omega)).1,fun j a b=>(h2 j (by omega) (by omega)).2.1 b,(h2 n (by omega) (by omega)).2.2 rfl⟩
theorem fm.heavy (s:fm lo hi ok n k M R u V Dl Dh) (hk:k<n) {i:Nat} (hi1:k<i) (hi2:i<n) (hl:0<Dl):
  15 / 16*ab (R i i)≤ab (R i i-R i k / R k k*R k i)∧ab (R i i-R i k / R k k*R k i)≤17 / 16*ab (R i i)∧sumR (n-(k+1)) (fun j=>ab (R i (k+1+j)-R i k / R k k*R k (k+1+j)))≤5 / 4*ab (R i i-R i k / R k k*R k i)∧bd (5 / 4*(ab (R i i)*V)) (R i n-R i k / R k k*R k n):=by
 have Dk1:=s.low k (by omega) hk;have hk0:R k k≠0:=by intro hc;rw[hc,fO] at Dk1;grind
 have eT:R i k / R k k*R k k=R i k:=by grind
 have abT:ab (R i k / R k k)*ab (R k k)=ab (R i k):=by rw[←oe,eT]
 have offk:=jV (s.off (i:=i) (j:=k) (by omega) hi2 (by omega) hk (by omega));have offi:=jV (s.off (i:=k) (j:=i) (by omega) hk (by omega) hi2 (by omega));have di:=s.dom i (by omega) hi2;have dk:=s.dom k (by omega) hk;rw[show n-k=(n-(k+1))+1 by omega,gJ] at di dk;simp only[Nat.add_zero] at di dk;have hs:=yZ (g:=fun j=>R i (k+1+j)) (h:=fun j=>R k (k+1+j)) (R i k / R k k) (n-(k+1));have c1:∀y,sumR (n-(k+1)) (fun j=>ab (R y (k+(j+1))))=sumR (n-(k+1)) (fun j=>ab (R y (k+1+j))):=fun y=>cX (fun j _=>by rw[show k+(j+1)=k+1+j by omega])
 rw[c1] at di dk;have g1:=Bl (R i i) (R i k / R k k*R k i);have g2:=Cm (R i i) (R i k / R k k*R k i);rw[oe] at g1 g2;have rk:=s.rbd k (by omega) hk;have ri:=s.rbd i (by omega) hi2;have hm:=js (nK (R i k / R k k)) rk;have hr:=mw ri hm;have T0:=eI (R i k / R k k);have m1:=aV T0 offi;have m2:=aV T0 dk;generalize sumR (n-(k+1)) (fun j=>ab (R i (k+1+j)))=Si at*;generalize sumR (n-(k+1)) (fun j=>ab (R k (k+1+j)))=Sk at*;generalize sumR (n-(k+1)) (fun j=>ab (R i (k+1+j)-R i k / R k k*R k (k+1+j)))=S at*;generalize ab (R i i-R i k / R k k*R k i)=D' at*;generalize ab (R k i)=aki at*;generalize ab (R i k / R k k)=T at*;generalize ab (R k k)=Dk at*;generalize ab (R i i)=Di at*;generalize haik:ab (R i k)=aik at*;have n1:=eI (R i k);rw[haik] at n1;refine⟨by grind,by grind,by grind,cE hr ?_⟩;have V0:=kl rk;have q:T*(Dk*V)=aik*V:=by rw[←abT];grind
 have hV:0≤V:=by
  apply Decidable.byContradiction;intro hc;have:=Rat.mul_pos (show 0<Dk by grind) (show 0< -V by grind);grind
 have:=bu hV offk;grind
theorem fm.next (H:ku lo hi eta Big mu su qo pv ok) (s:fm lo hi ok n k M R u V Dl Dh) (hk:k<n) (hl:fA≤Dl) (hh:Dh≤fS) (u0:0≤u) (u1:u≤1 / 100) (hV:V=0∨d8≤V) (hV2:V≤fT) (he:eta≤eps*dI) (hG:gu≤Big):
  ∃M',gW mu su qo n k (n-1-k) (k+1) (swapR M k k)=some M'∧(∀y,y≤k→M' y=M y)∧fm lo hi ok n (k+1) M' (fun y x=>R y x-R y k / R k k*R k x) (4*u+16*eps) (4 / 3*V) (Dl / 2) (2*Dh):=by
 have e0:=eC;have hdl:0<fA:=by unfold fA;grind
 have hsw:swapR M k k=M:=by
  funext y;unfold swapR
  by_cases hy:y=k
  ·rw[if_pos hy,hy]
  ·rw[if_neg hy,if_neg hy]
 rw[hsw];obtain⟨M',h1,h2,h3⟩:=rW (mu:=mu) (su:=su) (qo:=qo) (n:=n) (k:=k) (P:=fun i r=>(∀j,k<j→j≤n→ok (r j))∧(∀j,k<j→j<n→Nr lo hi (r j) (R i j-R i k / R k k*R k j) (ab (R i i)*(2*u+8*eps)))∧Nr lo hi (r n) (R i n-R i k / R k k*R k n) (ab (R i i)*V*(4*u+12*eps))) (n-1-k) (k+1) M (by omega) (fun y a b=>s.row H hk (by omega) (by omega) hl hh u0 u1 hV hV2 he hG);have hV0:0≤V:=by rcases hV with h|h<;>(unfold d8 at*;grind)
 refine⟨M',h1,fun y hy=>h3 y (by omega),?_⟩;have hv:=fun i (a:k<i) (b:i<n)=>s.heavy hk a b (by grind)
 have hp:=fun i (a:k<i) (b:i<n)=>h2 i (by omega) (by omega)
 constructor
 ·intro i j a b c d;exact(hp i (by omega) b).1 j (by omega) d
 ·intro i a b;have:=(hv i (by omega) b).1;have:=s.low i (by omega) b
  show Dl / 2≤ab (R i i-R i k / R k k*R k i)
  grind
 ·intro i a b;have:=(hv i (by omega) b).2.1;have:=s.high i (by omega) b;have:=s.low i (by omega) b
  show ab (R i i-R i k / R k k*R k i)≤2*Dh
  grind
 ·intro i a b;exact(hv i (by omega) b).2.2.1
 ·intro i j a b c d;refine((hp i (by omega) b).2.1 j (by omega) d).le ?_;have g:=(hv i (by omega) b).1;have:=bu (a:=2*u+8*eps) (by grind) g;have q:=eI (R i i-R i k / R k k*R k i);have:=aV q (show(2*u+8*eps)*(16 / 15)≤4*u+16*eps by grind)
  show ab (R i i)*(2*u+8*eps)≤ab (R i i-R i k / R k k*R k i)*(4*u+16*eps)
  grind
 ·intro i a b;refine(hp i (by omega) b).2.2.le ?_;have g:=(hv i (by omega) b).1;have g2:=bu (a:=V*(4*u+12*eps)) (Rat.mul_nonneg hV0 (by grind)) g;have q:=Rat.mul_nonneg (eI (R i i-R i k / R k k*R k i)) hV0;have:=aV q (show(4*u+12*eps)*(16 / 15)≤4 / 3*(4*u+16*eps) by grind)
  show ab (R i i)*V*(4*u+12*eps)≤ab (R i i-R i k / R k k*R k i)*(4 / 3*V)*(4*u+16*eps)
  grind
 ·intro i a b;refine cE (hv i (by omega) b).2.2.2 ?_;have g:=bu hV0 (hv i (by omega) b).1
  show 5 / 4*(ab (R i i)*V)≤ab (R i i-R i k / R k k*R k i)*(4 / 3*V)
  grind
end
end
section
def uS:Nat→Rat
 |0=>0
 |k+1=>4*uS k+16*eps
def vS (V:Rat):Nat→Rat
 |0=>V
 |k+1=>4 / 3*vS V k
def lS:Nat→Rat
 |0=>1 / 1073741824
 |k+1=>lS k / 2
def hS:Nat→Rat
 |0=>1073741824
 |k+1=>2*hS k
theorem Hk {k:Nat} (h:k≤3):0≤uS k∧uS k≤336*eps:=by
 have e0:=eC;rcases(show k=0∨k=1∨k=2∨k=3 by omega) with rfl|rfl|rfl|rfl<;>(simp only[uS];constructor<;>grind)
theorem G6 {k:Nat} {V:Rat} (h:k≤3) (h0:0≤V):V≤vS V k∧vS V k≤64 / 27*V:=by
 rcases(show k=0∨k=1∨k=2∨k=3 by omega) with rfl|rfl|rfl|rfl<;>(simp only[vS];constructor<;>grind)
theorem Hg {k:Nat} (h:k≤4):fA≤lS k∧hS k≤fS:=by
 rcases(show k=0∨k=1∨k=2∨k=3∨k=4 by omega) with rfl|rfl|rfl|rfl|rfl<;>(simp only[lS,hS,fA,fS];constructor<;>grind)
section
variable {α:Type} (lo hi:α→Rat) (ok:α→Prop)
structure sT (n y:Nat) (m:Nat→α) (r:Nat→Rat) (V:Rat):Prop where
 oks:∀j,y≤j→j≤n→ok (m j)
 low:fA≤ab (r y)
 high:ab (r y)≤fS
 diag:Nr lo hi (m y) (r y) (ab (r y)*(336*eps))
 near:∀j,y<j→j<n→Nr lo hi (m j) (r j) (ab (r y)*(336*eps))∧bd (ab (r y)*(1 / 4)) (r j)
 rnear:Nr lo hi (m n) (r n) (ab (r y)*V*(336*eps))
 rbd:bd (ab (r y)*V) (r n)
end
section
variable {α:Type} {lo hi:α→Rat} {eta Big:Rat} {mu su qo:α→α→Option α} {pv:(Nat→Nat→α)→Nat→Nat→Option Nat} {ok:α→Prop}
theorem rR (H:ku lo hi eta Big mu su qo pv ok) {n:Nat} (hn:n≤4) {V:Rat} (hV:V=0∨16*d8≤V) (hV2:16*V≤fT) (he:eta≤eps*dI) (hG:gu≤Big):∀(f k:Nat) (M:Nat→Nat→α) (R:Nat→Nat→Rat),k+f=n→fm lo hi ok n k M R (uS k) (vS V k) (lS k) (hS k)→
  ∃(M':Nat→Nat→α) (R':Nat→Nat→Rat),dM mu su qo pv n f k M=some M'∧(∀y,y<k→M' y=M y)∧∀y,k≤y→y<n→sT lo hi ok n y (M' y) (R' y) (64 / 27*V)
 |0,k,M,R,hk,s=>⟨M,R,rfl,fun y _=>rfl,fun y a b=>by omega⟩
 |f+1,k,M,R,hk,s=>by
  have e0:=eC;have e1:=mB;have hV0:0≤V:=by rcases hV with h|h<;>(unfold d8 at*;grind)
  obtain⟨u0,u1⟩:=Hk (k:=k) (by omega);obtain⟨v0,v1⟩:=G6 (k:=k) (V:=V) (by omega) hV0;obtain⟨l0,l1⟩:=Hg (k:=k) (by omega);have hp:=H.pv M n k (by omega) (fun i j a b c d=>s.oks i j a b c (by omega)) (s.piv (by omega) (by unfold fA at l0;grind) u0 (by grind))
  have hVk:vS V k=0∨d8≤vS V k:=by
   rcases hV with h|h
   ·left;grind
   ·right;unfold d8 at*;grind
  obtain⟨M1,h1,h2,h3⟩:=s.next H (by omega) l0 l1 u0 (by grind) hVk (by unfold fT at*;grind) he hG;obtain⟨M',R',g1,g2,g3⟩:=rR H hn hV hV2 he hG f (k+1) M1 _ (by omega) h3;refine⟨M',fun y=>if y=k then R k else R' y,?_,fun y hy=>by rw[g2 y (by omega),h2 y (by omega)],fun y a b=>?_⟩
  ·show(pv M n k).bind _=_
   rw[hp]
   show(gW mu su qo n k (n-1-k) (k+1) (swapR M k k)).bind _=_
   rw[h1];exact g1
  ·by_cases hy:y=k
   ·subst hy;simp only[if_pos];rw[g2 y (by omega),h2 y (by omega)];have q:=eI (R y y);have m1:=aV q u1;have m2:=aV q v1;have m3:=Rat.mul_nonneg q (show 0≤vS V y by grind);have m4:=aV m3 u1;have m5:=bu (show 0≤336*eps by grind) m2;exact⟨fun j a b=>s.oks y j (by omega) (by omega) a b,by have:=s.low y (by omega) (by omega);grind,by have:=s.high y (by omega) (by omega);grind,(s.near y y (by omega) (by omega) (by omega) (by omega)).le m1,fun j a b=>⟨(s.near y j (by omega) (by omega) (by omega) b).le m1,s.off (by omega) (by omega) (by omega) b (by omega)⟩,(s.rnear y (by omega) (by omega)).le (by grind),cE (s.rbd y (by omega) (by omega)) m2⟩
   ·simp only[if_neg hy];exact g3 y (by omega) b
theorem rf (H:ku lo hi eta Big mu su qo pv ok) {n y:Nat} {m g:Nat→α} {r X:Nat→Rat} {V Y w:Rat} (hn:n≤4) (s:sT lo hi ok n y m r V) (hVY:V≤Y) (w0:0≤w) (w1:w≤1 / 100) (og:∀j,y<j→j<n→ok (g j)) (hg:∀j,y<j→j<n→Nr lo hi (g j) (X j) (Y*w)∧bd Y (X j))
  (hD0:0≤ab (r y)*Y) (hD1:ab (r y)*Y=0∨eta≤eps*(ab (r y)*Y)) (hD2:4*(ab (r y)*Y)≤Big):
  ∀(f c:Nat) (a:α) (A:Rat),c+f+1+y=n→ok a→Nr lo hi a A (ab (r y)*Y*(336*eps+c*(w / 2+400*eps)))→bd (ab (r y)*Y*(1+c / 4)) A→∃b,iJ mu su m g f (y+1+c) a=some b∧ok b∧Nr lo hi b (A-sumR f (fun i=>r (y+1+c+i)*X (y+1+c+i))) (ab (r y)*Y*(336*eps+((c+f:Nat):Rat)*(w / 2+400*eps)))∧bd (ab (r y)*Y*(1+((c+f:Nat):Rat) / 4)) (A-sumR f (fun i=>r (y+1+c+i)*X (y+1+c+i)))
 |0,c,a,A,_,oa,na,ba=>⟨a,rfl,oa,by show Nr lo hi a (A-0) _;rw[show A-0=A by grind];exact na,by show bd _ (A-0);rw[show A-0=A by grind];exact ba⟩
 |f+1,c,a,A,hc,oa,na,ba=>by
  have e0:=eC;have e1:=mB;obtain⟨ng,bg⟩:=hg (y+1+c) (by omega) (by omega);obtain⟨nm,bm⟩:=s.near (y+1+c) (by omega) (by omega)
  have hc3:(c:Rat)≤2:=by
   rcases(show c=0∨c=1∨c=2 by omega) with rfl|rfl|rfl<;>grind
  have hc0:(0:Rat)≤(c:Rat):=by
   rcases(show c=0∨c=1∨c=2 by omega) with rfl|rfl|rfl<;>grind
  generalize hD:ab (r y)=D at*;have E1:D*(1 / 4)*(Y*w)+Y*(D*(336*eps))+D*(336*eps)*(Y*w)=D*Y*(w / 4+336*eps+336*(eps*w)):=by grind
  have E2:D*(1 / 4)*Y=D*Y*(1 / 4):=by grind
  have E3:Y*(D*(336*eps))=D*Y*(336*eps):=by grind
  have ew:=aV (Rat.le_of_lt e0) w1;have ew0:=Rat.mul_nonneg (Rat.le_of_lt e0) w0;have cw:=bu (show 0≤w / 2+400*eps by grind) hc3;have cw0:=Rat.mul_nonneg hc0 (show 0≤w / 2+400*eps by grind);generalize hE:D*Y=E at*;have L1:=aV hD0 (show w / 4+336*eps+336*(eps*w)≤1 by grind);obtain⟨p,hp,op,np⟩:=wn H (S:=E) (s.oks _ (by omega) (by omega)) (og _ (by omega) (by omega)) nm ng bm bg (by rw[E1,E2];grind) hD1 (by grind);rw[E1] at np;have bp:bd (E*(1 / 4)) (r (y+1+c)*X (y+1+c)):=by have:=js bm bg;rwa [E2] at this
  have eE:=Rat.mul_nonneg (Rat.le_of_lt e0) hD0;have L2:=aV hD0 (show(1+(c:Rat) / 4)+1 / 4+(336*eps+c*(w / 2+400*eps))+(w / 4+336*eps+336*(eps*w))+3*eps≤4 by grind);obtain⟨d,hd,od,nd⟩:=xG H (S:=2*E) oa op na np ba bp (by grind) (by rcases hD1 with h|h;(left;grind);(right;grind)) (by grind);have bb:=mw ba bp
  obtain⟨b,hb,ob,nb,bb'⟩:=rf H hn s hVY w0 w1 og hg (by rw[hD,hE];exact hD0) (by rw[hD,hE];exact hD1) (by rw[hD,hE];exact hD2) f (c+1) d (A-r (y+1+c)*X (y+1+c)) (by omega) od
   (nd.le (by
     have L3:=aV hD0 (show(336*eps+c*(w / 2+400*eps))+(w / 4+336*eps+336*(eps*w))+9*eps≤336*eps+((c:Rat)+1)*(w / 2+400*eps) by grind);rw[hD,hE];have:(((c+1:Nat)):Rat)=(c:Rat)+1:=by grind
     rw[this];grind))
   (cE bb (by
     rw[hD,hE];have:(((c+1:Nat)):Rat)=(c:Rat)+1:=by grind
     rw[this];grind))
  rw[hD,hE] at nb bb';refine⟨b,?_,ob,?_,?_⟩
  ·show(lpX mu su a (m (y+1+c)) (g (y+1+c))).bind _=_
   have:lpX mu su a (m (y+1+c)) (g (y+1+c))=some d:=by unfold lpX;rw[hp];exact hd
   rw[this];exact hb
  ·have e:A-sumR (f+1) (fun i=>r (y+1+c+i)*X (y+1+c+i))=A-r (y+1+c)*X (y+1+c)-sumR f (fun i=>r (y+1+(c+1)+i)*X (y+1+(c+1)+i)):=by
    rw[gJ];simp only[Nat.add_zero];rw[show sumR f (fun j=>r (y+1+c+(j+1))*X (y+1+c+(j+1)))=sumR f (fun i=>r (y+1+(c+1)+i)*X (y+1+(c+1)+i)) from cX (fun j _=>by rw[show y+1+c+(j+1)=y+1+(c+1)+j by omega])];grind
   rw[e,show c+(f+1)=c+1+f by omega];exact nb
  ·have e:A-sumR (f+1) (fun i=>r (y+1+c+i)*X (y+1+c+i))=A-r (y+1+c)*X (y+1+c)-sumR f (fun i=>r (y+1+(c+1)+i)*X (y+1+(c+1)+i)):=by
    rw[gJ];simp only[Nat.add_zero];rw[show sumR f (fun j=>r (y+1+c+(j+1))*X (y+1+c+(j+1)))=sumR f (fun i=>r (y+1+(c+1)+i)*X (y+1+(c+1)+i)) from cX (fun j _=>by rw[show y+1+c+(j+1)=y+1+(c+1)+j by omega])];grind
   rw[e,show c+(f+1)=c+1+f by omega];exact bb'
end
end
section
def wS:Nat→Rat
 |0=>0
 |k+1=>3 / 2*wS k+2300*eps
def yS (Y:Rat):Nat→Rat
 |0=>Y
 |k+1=>2*yS Y k
theorem EU {k:Nat} (h:k≤4):0≤wS k∧wS k≤18688*eps:=by
 have e0:=eC;rcases(show k=0∨k=1∨k=2∨k=3∨k=4 by omega) with rfl|rfl|rfl|rfl|rfl<;>(simp only[wS];constructor<;>grind)
theorem EV {k:Nat} {Y:Rat} (h:k≤4) (h0:0≤Y):Y≤yS Y k∧yS Y k≤16*Y:=by
 rcases(show k=0∨k=1∨k=2∨k=3∨k=4 by omega) with rfl|rfl|rfl|rfl|rfl<;>(simp only[yS];constructor<;>grind)
section
variable {α:Type} {lo hi:α→Rat} {eta Big:Rat} {mu su qo:α→α→Option α} {pv:(Nat→Nat→α)→Nat→Nat→Option Nat} {ok:α→Prop}
theorem qi (H:ku lo hi eta Big mu su qo pv ok) {n:Nat} (hn:n≤4) {M:Nat→Nat→α} {R:Nat→Nat→Rat} {V:Rat} (hV:V=0∨d8≤V) (hV2:V≤fT) (he:eta≤eps*dI) (hG:gu≤Big) (s:∀y,y<n→sT lo hi ok n y (M y) (R y) V):
  ∀(i:Nat) (g:Nat→α) (X:Nat→Rat),i≤n→(∀j,i≤j→j<n→ok (g j)∧Nr lo hi (g j) (X j) (yS V (n-i)*wS (n-i))∧bd (yS V (n-i)) (X j))→
   ∃g',fD mu su qo n M i g=some g'∧∀j,j<n→ok (g' j)∧∃x,Nr lo hi (g' j) x (yS V n*wS n)
 |0,g,X,_,h=>⟨g,rfl,fun j hj=>⟨(h j (by omega) hj).1,X j,(h j (by omega) hj).2.1⟩⟩
 |i+1,g,X,hin,h=>by
  have e0:=eC;have e1:=mB;have hV0:0≤V:=by rcases hV with h|h<;>(unfold d8 at*;grind)
  obtain⟨w0,w1⟩:=EU (k:=n-(i+1)) (by omega);obtain⟨y0,y1⟩:=EV (k:=n-(i+1)) (Y:=V) (by omega) hV0
  have hnext:yS V (n-i)=2*yS V (n-(i+1))∧wS (n-i)=3 / 2*wS (n-(i+1))+2300*eps:=by
   rw[show n-i=(n-(i+1))+1 by omega];exact⟨rfl,rfl⟩
  obtain⟨hn1,hn2⟩:=hnext;generalize hY:yS V (n-(i+1))=Y at*;generalize hw:wS (n-(i+1))=w at*;have si:=s i (by omega);have dl:=si.low;have dh:=si.high;have hY0:0≤Y:=by grind
  have hdl:0<fA:=by unfold fA;grind
  have D0:0<ab (R i i):=by grind
  have hD0:0≤ab (R i i)*Y:=Rat.mul_nonneg (by grind) hY0
  have hYS:∀c:Rat,1≤c→(c*Y=0∨eta≤eps*(c*Y)):=by
   intro c hc;rcases hV with hv|hv
   ·left;have:Y=0:=by grind
    rw[this];grind
   ·refine sU he ?_;have:=bu hY0 hc;unfold dI d8 at*;grind
  have hD1:ab (R i i)*Y=0∨eta≤eps*(ab (R i i)*Y):=by
   rcases hV with hv|hv
   ·left;have:Y=0:=by grind
    rw[this];grind
   ·refine sU he ?_;have:=kX (a:=fA) (b:=ab (R i i)) (x:=d8) (y:=Y) (by grind) (by unfold d8;grind) dl (by grind);unfold dI fA d8 at*;grind
  have hD2:4*(ab (R i i)*Y)≤Big:=by
   have:=kX (a:=ab (R i i)) (b:=fS) (x:=Y) (y:=16*fT) (by grind) hY0 dh (by grind);unfold gu fS fT at*;grind
  have og:∀j,i<j→j<n→ok (g j):=fun j a b=>(h j (by omega) b).1
  have hg:∀j,i<j→j<n→Nr lo hi (g j) (X j) (Y*w)∧bd Y (X j):=fun j a b=>(h j (by omega) b).2
  have dV:=aV (Rat.le_of_lt D0) y0;have dVe:=bu (show 0≤336*eps by grind) dV
  obtain⟨b,hb,ob,nb,bb⟩:=rf H hn si y0 w0 (by grind) og hg hD0 hD1 hD2 (n-1-i) 0 (M i n) (R i n) (by omega) (si.oks n (by omega) (by omega)) (si.rnear.le (by
   have:((0:Nat):Rat)=0:=rfl;rw[this];grind)) (cE si.rbd (by
   have:((0:Nat):Rat)=0:=rfl;rw[this];grind))
  simp only[Nat.add_zero,Nat.zero_add] at hb nb bb
  have hc3:((n-1-i:Nat):Rat)≤3:=by
   rcases(show n-1-i=0∨n-1-i=1∨n-1-i=2∨n-1-i=3 by omega) with h|h|h|h<;>(rw[h];grind)
  have hc0:(0:Rat)≤((n-1-i:Nat):Rat):=by
   rcases(show n-1-i=0∨n-1-i=1∨n-1-i=2∨n-1-i=3 by omega) with h|h|h|h<;>(rw[h];grind)
  have cw:=bu (show 0≤w / 2+400*eps by grind) hc3;generalize((n-1-i:Nat):Rat)=c at*;generalize hA:R i n-sumR (n-1-i) (fun j=>R i (i+1+j)*X (i+1+j))=A at*;have nb':Nr lo hi b A (ab (R i i)*Y*(3 / 2*w+1536*eps)):=nb.le (aV hD0 (by grind));have bb':bd (ab (R i i)*Y*(7 / 4)) A:=cE bb (aV hD0 (by grind));have hr0:R i i≠0:=by intro hc;rw[hc,fO] at D0;grind
  have hQ:bd (7 / 4*Y) (A / R i i):=by
   refine yJ (h:=ab (R i i)) D0 (y:=R i i) (by rcases bw (R i i) with⟨_,e⟩|⟨_,e⟩<;>grind) ?_;rw[show A / R i i*R i i=A by grind];exact cE bb' (by grind)
  have p1:=aV (Rat.le_of_lt D0) (show 336*eps≤1 / 2 by grind);have yw:=aV hY0 w1;have ye:=Rat.mul_nonneg hY0 (Rat.le_of_lt e0);have yw0:=Rat.mul_nonneg hY0 w0;have yee:=aV hY0 e1
  obtain⟨_,c',hc',oc',nc'⟩:=Bj H (Q:=7 / 4*Y) (g:=Y*(3*w+4416*eps)) (L:=ab (R i i)) (S:=2*Y) ob (si.oks i (by omega) (by omega)) nb' si.diag D0 (by rcases bw (R i i) with⟨_,e⟩|⟨_,e⟩<;>grind) (by grind) hQ
   (by
     have:=Rat.mul_nonneg hD0 (Rat.le_of_lt e0);rw[show ab (R i i)*Y*(3 / 2*w+1536*eps)+7 / 4*Y*(ab (R i i)*(336*eps))=ab (R i i)*Y*(3 / 2*w)+2124*(ab (R i i)*Y*eps) by grind,show Y*(3*w+4416*eps)*(ab (R i i) / 2)=ab (R i i)*Y*(3 / 2*w)+2208*(ab (R i i)*Y*eps) by grind];grind) (by grind) (hYS 2 (by grind)) (by unfold gu fT at*;grind)
  obtain⟨g',k1,k2⟩:=qi H hn hV hV2 he hG s i (upd g i c') (fun j=>if j=i then A / R i i else X j) (by omega) (fun j a b=>by
   rw[hn1,hn2];by_cases hj:j=i
   ·subst hj;simp only[if_pos];rw[aN];exact⟨oc',nc'.le (by grind),cE hQ (by grind)⟩
   ·simp only[if_neg hj];rw[bn hj];obtain⟨q1,q2,q3⟩:=h j (by omega) b;exact⟨q1,q2.le (by grind),cE q3 (by grind)⟩)
  refine⟨g',?_,k2⟩
  show(iJ mu su (M i) g (n-1-i) (i+1) (M i n)).bind _=_
  rw[hb]
  show(qo b (M i i)).bind _=_
  rw[hc'];exact k1
theorem yF (H:ku lo hi eta Big mu su qo pv ok) {n:Nat} (hn:n≤4) {M:Nat→Nat→α} {z:Nat→α} {R:Nat→Nat→Rat} {V:Rat} (hV:V=0∨16*d8≤V) (hV2:16*V≤fT) (he:eta≤eps*dI) (hG:gu≤Big)
  (oks:∀i j,i<n→j≤n→ok (M i j)) (pts:∀i j,i<n→j≤n→lo (M i j)=R i j∧hi (M i j)=R i j) (low:∀i,i<n→1 / 1073741824≤ab (R i i)) (high:∀i,i<n→ab (R i i)≤1073741824)
  (dom:∀i,i<n→sumR n (fun j=>ab (R i j))≤5 / 4*ab (R i i)) (rb:∀i,i<n→bd (ab (R i i)*V) (R i n)):
  ∃g,dC mu su qo pv n M z=some g∧∀i,i<n→ok (g i)∧hi (g i)-lo (g i)≤V / 2147483648:=by
 have e0:=eC;have hV0:0≤V:=by rcases hV with h|h<;>(unfold d8 at*;grind)
 have z0:∀a A,lo a=A→hi a=A→Nr lo hi a A 0:=by
  intro a A h1 h2;constructor<;>(unfold bd;constructor<;>grind)
 have st:fm lo hi ok n 0 M R (uS 0) (vS V 0) (lS 0) (hS 0):=by
  constructor
  ·intro i j _ a _ b;exact oks i j a b
  ·intro i _ a;exact low i a
  ·intro i _ a;exact high i a
  ·intro i _ a;have:=dom i a;simpa using this
  ·intro i j _ a _ b;obtain⟨h1,h2⟩:=pts i j a (by omega);exact(z0 _ _ h1 h2).le (by show 0≤ab (R i i)*0;grind)
  ·intro i _ a;obtain⟨h1,h2⟩:=pts i n a (by omega);exact(z0 _ _ h1 h2).le (by show 0≤ab (R i i)*vS V 0*0;grind)
  ·intro i _ a;exact rb i a
 obtain⟨M',R',h1,_,h3⟩:=rR H hn hV hV2 he hG n 0 M R (by omega) st;obtain⟨g,h4,h5⟩:=qi H hn (M:=M') (R:=R') (V:=64 / 27*V) (by rcases hV with h|h;(left;grind);(right;unfold d8 at*;grind)) (by unfold fT at*;grind) he hG (fun y hy=>h3 y (by omega) hy) n z (fun _=>0) ae (fun j a b=>by omega);refine⟨g,?_,fun i hin=>?_⟩
 ·unfold dC;rw[h1];exact h4
 ·obtain⟨oi,x,hx⟩:=h5 i hin;refine⟨oi,?_⟩;have a1:=hx.1;have a2:=hx.2;obtain⟨w0,w1⟩:=EU hn;obtain⟨y0,y1⟩:=EV (k:=n) (Y:=64 / 27*V) hn (by grind);have:=kX (a:=yS (64 / 27*V) n) (b:=16*(64 / 27*V)) (x:=wS n) (y:=18688*eps) (by grind) w0 y1 w1;unfold bd at a1 a2;unfold eps at*;grind
end
end
end Go.Proofs.YtonhpkigoplmaaaGreatDoor
