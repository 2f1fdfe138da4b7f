import Derived.Test.YtonhpkigoplmaaaGreatDoorZ22
set_option maxRecDepth 100000
set_option maxHeartbeats 40000000
namespace Go.Proofs.YtonhpkigoplmaaaGreatDoor
section
open Go.RowKit Go.Extern Ieee
def aI (x:ap):Rat:=(sg x.1 x.2.1:Rat)*pw x.2.2
theorem jY (z:Int) (k:Nat):((z*((2^k:Nat):Int):Int):Rat)=(z:Rat)*pw k:=by
 rw[eU,Rat.intCast_mul,Rat.intCast_natCast]
theorem f8 {e z:Int} {x:ap} (h:bj e z x):aI x=(z:Rat)*pw e:=by
 have h1:=h (min e x.2.2) (by omega) (by omega);have h2:((sg x.1 (x.2.1*2^(x.2.2-min e x.2.2).toNat):Int):Rat)=((z*((2^(e-min e x.2.2).toNat:Nat):Int):Int):Rat):=by rw[h1]
 rw[jY,←bG,jY] at h2;unfold aI;have e1:pw x.2.2=pw ((x.2.2-min e x.2.2).toNat:Int)*pw (min e x.2.2):=by rw[←bT];congr 1;omega
 have e2:pw e=pw ((e-min e x.2.2).toNat:Int)*pw (min e x.2.2):=by rw[←bT];congr 1;omega
 rw[e1,e2];grind
theorem If {x y:ap} (h:leV x y):aI x≤aI y:=by
 have h1:=jr h (e:=min x.2.2 y.2.2) (by omega) (by omega);have h2:=Rat.intCast_le_intCast.2 h1;rw[←bG,←bG,jY,jY] at h2;have h3:=bu (Rat.le_of_lt (d9 (min x.2.2 y.2.2))) h2;unfold aI;have e1:pw x.2.2=pw ((x.2.2-min x.2.2 y.2.2).toNat:Int)*pw (min x.2.2 y.2.2):=by rw[←bT];congr 1;omega
 have e2:pw y.2.2=pw ((y.2.2-min x.2.2 y.2.2).toNat:Int)*pw (min x.2.2 y.2.2):=by rw[←bT];congr 1;omega
 rw[e1,e2];grind
theorem mL (x y:ap):aI (sumT x y)=aI x+aI y:=by
 have hx:=bk x (e:=min x.2.2 y.2.2) (by omega);have hy:=bk y (e:=min x.2.2 y.2.2) (by omega);have hs:bj _ _ (sumT x y):=dx hx hy;rw[f8 hx,f8 hy,f8 hs,Rat.intCast_add];grind
theorem pJ (x:ap):aI (bC x)=-aI x:=by
 have hx:=bk x (e:=x.2.2) (by omega);rw[f8 hx,f8 (kk hx),Rat.intCast_neg];grind
theorem iU (x y:ap):aI (aT x y)=aI x*aI y:=by
 have hx:=bk x (e:=x.2.2) (by omega);have hy:=bk y (e:=y.2.2) (by omega);obtain⟨s,n,e⟩:=x;obtain⟨t,m,f⟩:=y;unfold aT aI;simp only;rw[bT]
 have:((sg ((s !=t) && decide (n*m≠0)) (n*m):Int):Rat)=(sg s n:Rat)*(sg t m:Rat):=by
  rw[←Rat.intCast_mul,←tE]
  congr 1
  by_cases h0:n*m=0
  ·rw[h0];unfold sg;cases s<;>cases t<;>rfl
  ·rw[decide_eq_true h0,Bool.and_true]
 rw[this];grind
theorem dH {x:ap} (h:x.2.1=0):aI x=0:=by
 unfold aI;rw[h];have:((sg x.1 0:Int):Rat)=0:=by unfold sg;split<;>rfl
 rw[this];grind
def BR (x:ap) (q:Rat):Prop:=(x.2.1=0∧q=0)∨(x.2.1≠0∧∃E,q=(if x.1 then -E else E)∧rvQ (rung x.2.1 x.2.2)≤E∧E≤rvQ (rung x.2.1 x.2.2+if aP x.2.1 then 1 else 0))
theorem sG {n:Nat} (e:Int) (h:n≠0):rvQ (rung n e)=(mf n:Rat)*pw (e+bl n-53)∧rvQ (rung n e+1)=((mf n+1:Nat):Rat)*pw (e+bl n-53):=by
 obtain⟨h1,h2⟩:=b9 (Nat.pos_of_ne_zero h);have hr:rung n e=(e+bl n-53+1074)*4503599627370496+(mf n:Int):=by unfold rung;omega
 constructor
 ·rw[jT hr (by omega) (by omega),Rat.intCast_natCast]
 ·rw[zw hr (by omega) (by omega)]
  congr 1
theorem vB {n:Nat} (e:Int) (h:n≠0):rvQ (rung n e+if aP n then 1 else 0)=((mf n+(if aP n then 1 else 0):Nat):Rat)*pw (e+bl n-53):=by
 obtain⟨h1,h2⟩:=sG e h
 cases aP n
 ·simp only[Bool.false_eq_true,if_false,Int.add_zero,Nat.add_zero];exact h1
 ·simp only[if_true];exact h2
theorem jU (n k:Nat):((n*2^k:Nat):Rat)=(n:Rat)*pw k:=by
 rw[eU,Rat.natCast_mul]
theorem vw (x:ap):BR x (aI x):=by
 by_cases h0:x.2.1=0
 ·left;exact⟨h0,dH h0⟩
 ·right;refine⟨h0,(x.2.1:Rat)*pw x.2.2,?_,?_⟩
  ·unfold aI sg
   cases x.1
   ·simp only[Bool.false_eq_true,if_false];rw[Rat.intCast_natCast]
   ·simp only[if_true];rw[Rat.intCast_neg,Rat.intCast_natCast];grind
  ·obtain⟨c1,c2⟩:=vD x.2.1 x.2.2 (min x.2.2 (x.2.2+bl x.2.1-53)) h0 (by omega) (by omega);have d1:=Rat.natCast_le_natCast.2 c1;have d2:=Rat.natCast_le_natCast.2 c2;rw[jU,jU] at d1 d2;rw[(sG _ h0).1,vB _ h0];generalize hc:min x.2.2 (x.2.2+bl x.2.1-53)=c at*;have e1:pw x.2.2=pw ((x.2.2-c).toNat:Int)*pw c:=by rw[←bT];congr 1;omega
   have e2:pw (x.2.2+bl x.2.1-53)=pw ((x.2.2+bl x.2.1-53-c).toNat:Int)*pw c:=by rw[←bT];congr 1;omega
   rw[e1,e2];have k1:=bu (Rat.le_of_lt (d9 c)) d1;have k2:=bu (Rat.le_of_lt (d9 c)) d2;constructor<;>grind
theorem Gm {x:ap} {q:Rat} (h:BR x q):BR (bC x) (-q):=by
 rcases h with⟨h0,rfl⟩|⟨h0,E,rfl,h1,h2⟩
 ·left;exact⟨h0,by grind⟩
 ·right;refine⟨h0,E,?_,h1,h2⟩
  show -(if x.1=true then -E else E)=if aQ x.1 x.2.1=true then -E else E
  unfold aQ;rw[decide_eq_true h0]
  cases x.1<;>simp
theorem kf {a b c:Rat} (hc:0<c) (h:a*c≤b*c):a≤b:=by
 apply Decidable.byContradiction;intro hn;have:=Rat.mul_pos (show 0<a-b by grind) hc;grind
theorem Fk {X m N j:Nat} (hm:0<m) (hN:N=2*(X / m)+if X % m=0 then 0 else 1) (hj:0<j):N / 2^j*2^j*m≤2*X∧2*X≤(N / 2^j+if decide (N % 2^j≠0) then 1 else 0)*2^j*m:=by
 have hd:=Nat.div_add_mod X m;have hl:=Nat.mod_lt X hm;have hd2:=Nat.div_add_mod N (2^j);have hl2:=Nat.mod_lt N (Nat.two_pow_pos j);have hk:2^j=2*2^(j-1):=by rw[show j=(j-1)+1 by omega,Nat.pow_succ,Nat.mul_comm];rfl
 have hz:N % 2^j=0→X % m=0:=by
  intro h0;apply Decidable.byContradiction;intro hc;rw[if_neg hc] at hN;rw[h0,hk,Nat.add_zero,Nat.mul_assoc] at hd2;omega
 rw[hk] at hd2 hl2 hz⊢;generalize 2^(j-1)=g at*;clear hk;generalize hc:N /(2*g)=c at*;generalize X / m=a at*;have e1:2*g*c=2*(c*g):=by rw[Nat.mul_assoc,Nat.mul_comm g]
 have e2:c*(2*g)*m=2*(c*g*m):=by rw[Nat.mul_left_comm c,Nat.mul_assoc]
 have e3:(c+1)*(2*g)*m=2*((c+1)*g*m):=by rw[Nat.mul_left_comm (c+1),Nat.mul_assoc]
 have e4:(c+1)*g=c*g+g:=by rw[Nat.add_mul,Nat.one_mul]
 have e5:a*m=m*a:=Nat.mul_comm _ _;have e6:(a+1)*m=m*a+m:=by rw[Nat.add_mul,Nat.one_mul,Nat.mul_comm]
 constructor
 ·rw[e2]
  have h1:c*g≤a:=by
   split at hN<;>omega
  have h2:=Nat.mul_le_mul_right m h1;omega
 ·by_cases h0:N %(2*g)=0
  ·rw[decide_eq_false (by omega)];simp only[Bool.false_eq_true,if_false,Nat.add_zero];have hx:=hz h0;rw[if_pos hx] at hN;rw[e2];have h1:a≤c*g:=by omega
   have h2:=Nat.mul_le_mul_right m h1;omega
  ·rw[decide_eq_true h0,if_pos rfl,e3]
   have h1:a+1≤(c+1)*g:=by
    split at hN<;>omega
   have h2:=Nat.mul_le_mul_right m h1;omega
theorem FE {n m M0 M1 P K H pe pf:Rat} (hm:0<m) (hpf:0<pf) (hpe:0<pe) (hH:0<H) (e1:P*(pf*(2*H))=K*pe) (low:M0*K*m≤2*(n*H)) (high:2*(n*H)≤M1*K*m):M0*P≤n*pe /(m*pf)∧n*pe /(m*pf)≤M1*P:=by
 have hpos:0<m*pf*(2*H):=Rat.mul_pos (Rat.mul_pos hm hpf) (by grind)
 have hq:n*pe /(m*pf)*(m*pf)=n*pe:=by
  have:=Rat.mul_pos hm hpf;grind
 generalize n*pe /(m*pf)=q at*
 have R:q*(m*pf*(2*H))=2*(n*H)*pe:=by
  rw[show q*(m*pf*(2*H))=q*(m*pf)*(2*H) by grind,hq];grind
 have L:∀M:Rat,M*P*(m*pf*(2*H))=M*K*m*pe:=by
  intro M;rw[show M*P*(m*pf*(2*H))=M*m*(P*(pf*(2*H))) by grind,e1];grind
 constructor
 ·refine kf hpos ?_;rw[L,R];exact bu (Rat.le_of_lt hpe) low
 ·refine kf hpos ?_;rw[L,R];exact bu (Rat.le_of_lt hpe) high
theorem FU {n m h N:Nat} {e f:Int} (hm:0<m) (hN:N=2*(n*2^h / m)+if n*2^h % m=0 then 0 else 1) (hb:54≤bl N):rvQ (rung N (e-h-f-1))≤(n:Rat)*pw e /((m:Rat)*pw f)∧(n:Rat)*pw e /((m:Rat)*pw f)≤rvQ (rung N (e-h-f-1)+if aP N then 1 else 0):=by
 have b3:N≠0:=by
  rintro rfl;have:bl 0=0:=rfl;omega
 obtain⟨low,high⟩:=Fk (j:=bl N-53) hm hN (by omega);have hmf:mf N=N / 2^(bl N-53):=by unfold mf;rw[if_neg (by omega)]
 have hix:aP N=decide (N % 2^(bl N-53)≠0):=by unfold aP;simp[show 53<bl N by omega]
 rw[←hmf] at low;rw[←hmf,←hix] at high;rw[(sG _ b3).1,vB _ b3];have low':=Rat.natCast_le_natCast.2 low;have high':=Rat.natCast_le_natCast.2 high;rw[Rat.natCast_mul,jU,Rat.natCast_mul,jU] at low' high';refine FE (Rat.natCast_pos.2 hm) (d9 f) (d9 e) (d9 (h:Int)) ?_ low' high';rw[←oF,←bT,←bT,←bT,←bT];congr 1;omega
theorem Gi {x y:ap} (hx:eA x) (hy:eA y) (hy0:y.2.1≠0):BR (quoN x y) (aI x / aI y):=by
 obtain⟨s,n,e⟩:=x;obtain⟨t,m,f⟩:=y;rcases hy with hy|hy
 ·cases hy;exact absurd rfl hy0
 simp only at hy hy0;rcases hx with hx|hx
 ·cases hx
  left;constructor
  ·unfold quoN gT;simp
  ·rw[dH rfl];grind
 ·simp only at hx;rw[o5 hx.1 hx.2.1 hy.1 hy.2.1];obtain⟨b1,b2,b3⟩:=jR hx.1 hx.2.1 hy.1 hy.2.1;right;refine⟨b3,(n:Rat)*pw e /((m:Rat)*pw f),?_,FU (h:=113) (by omega) rfl (show 54≤bl (fg n m) by omega)⟩;unfold aI sg;simp only
  have hm:(m:Rat)≠0:=by
   have:(0:Rat)<(m:Rat):=Rat.natCast_pos.2 (by omega);grind
  have hp:=d9 f;clear b1 b2 b3 hx hy
  cases s<;>cases t<;>simp[Rat.intCast_neg,Rat.intCast_natCast]<;>grind
theorem jM (x y:ap):lessT x y=true↔aI x<aI y:=by
 have hx:=bk x (e:=min x.2.2 y.2.2) (by omega);have hy:=bk y (e:=min x.2.2 y.2.2) (by omega);rw[dw hx hy,f8 hx,f8 hy];have p:=d9 (min x.2.2 y.2.2);generalize sg x.1 (x.2.1*2^(x.2.2-min x.2.2 y.2.2).toNat)=a;generalize sg y.1 (y.2.1*2^(y.2.2-min x.2.2 y.2.2).toNat)=b;generalize pw (min x.2.2 y.2.2)=c at*;constructor
 ·intro h;exact Rat.mul_lt_mul_of_pos_right (Rat.intCast_lt_intCast.2 h) p
 ·intro h;apply Decidable.byContradiction;intro hc;have h1:(b:Rat)≤(a:Rat):=Rat.intCast_le_intCast.2 (by omega);have h2:=bu (Rat.le_of_lt p) h1;grind
def iS (x:ap):ap:=(false,x.2.1,x.2.2)
theorem pM (x:ap):aI (iS x)=ab (aI x):=by
 obtain⟨s,n,e⟩:=x;unfold iS aI;simp only;have p:=d9 e;have hn:(0:Rat)≤(n:Rat):=Rat.natCast_nonneg;have h:=bu (Rat.le_of_lt p) hn
 cases s
 ·have e1:((sg false n:Int):Rat)=(n:Rat):=by unfold sg;simp[Rat.intCast_natCast]
  rw[e1];rcases bw ((n:Rat)*pw e) with⟨_,q⟩|⟨_,q⟩<;>grind
 ·have e1:((sg false n:Int):Rat)=(n:Rat):=by unfold sg;simp[Rat.intCast_natCast]
  have e2:((sg true n:Int):Rat)=-(n:Rat):=by unfold sg;simp[Rat.intCast_natCast,Rat.intCast_neg]
  rw[e1,e2];rcases bw (-(n:Rat)*pw e) with⟨_,q⟩|⟨_,q⟩<;>grind
def fairT (x:ap):Bool:=decide (aI x=0)||(decide (pw (-30)≤ab (aI x)) && decide (ab (aI x)≤pw 30))
structure Bq (E M:Nat) (x:ap):Prop where
 l:-(E:Int)≤x.2.2
 u:x.2.2≤(E:Int)
 t:(bl x.2.1:Int)+x.2.2≤(M:Int)
theorem Bq.sm {E M:Nat} {x:ap} (h:Bq E M x) (hE:E≤5000) (hM:M≤5000):Sm x:=⟨by have:=h.l;have:=h.t;omega,by have:=h.l;omega,by have:=h.u;omega⟩
theorem Bq.mono {E M E' M':Nat} {x:ap} (h:Bq E M x) (hE:E≤E') (hM:M≤M'):Bq E' M' x:=⟨by have:=h.l;omega,by have:=h.u;omega,by have:=h.t;omega⟩
theorem Bq.neg {E M:Nat} {x:ap} (h:Bq E M x):Bq E M (bC x):=⟨h.l,h.u,h.t⟩
theorem Bq.amt {E M:Nat} {x:ap} (h:Bq E M x):Bq E M (iS x):=⟨h.l,h.u,h.t⟩
theorem Bq.zero (E M:Nat):Bq E M (false,0,0):=⟨by simp only;omega,by simp only;omega,by simp only;rw[ns];omega⟩
theorem Bq.prod {E M F N:Nat} {x y:ap} (hx:Bq E M x) (hy:Bq F N y):Bq (E+F) (M+N) (aT x y):=by
 have:=yW x.2.1 y.2.1;have:=hx.l;have:=hx.u;have:=hx.t;have:=hy.l;have:=hy.u;have:=hy.t;unfold aT;exact⟨by simp only;omega,by simp only;omega,by simp only;omega⟩
theorem Bq.sum {E M:Nat} {x y:ap} (hx:Bq E M x) (hy:Bq E M y):Bq E (M+1) (sumT x y):=by
 obtain⟨s,n,e⟩:=x;obtain⟨t,m,f⟩:=y;have l1:=hx.l;have u1:=hx.u;have t1:=hx.t;have l2:=hy.l;have u2:=hy.u;have t2:=hy.t;simp only at l1 l2 u1 u2 t1 t2
 have a1:bl (lvA n e f)≤((M:Int)-min e f).toNat:=by
  have:=je n (e-min e f).toNat
  unfold lvA;omega
 have a2:bl (lvB m e f)≤((M:Int)-min e f).toNat:=by
  have:=je m (f-min e f).toNat
  unfold lvB;omega
 have a3:=yQ a1 a2;have a4:=jD (Nat.sub_le (lvA n e f) (lvB m e f));have a5:=jD (Nat.sub_le (lvB m e f) (lvA n e f));have a6:min e f≤(M:Int):=by omega
 show Bq E (M+1) (sumN s n e t m f)
 unfold sumN;split
 ·exact⟨by simp only;omega,by simp only;omega,by simp only;omega⟩
 ·split
  ·exact Bq.zero _ _
  ·split
   ·exact⟨by simp only;omega,by simp only;omega,by simp only;omega⟩
   ·exact⟨by simp only;omega,by simp only;omega,by simp only;omega⟩
theorem Pl.bq {x:ap} (h:Pl x):Bq 952 952 x:=⟨by have:=h.l;omega,by have:=h.u;omega,by have:=h.bits;have:=h.u;omega⟩
theorem Iv.pl1 {l h:Nat} (i:Iv l h):Pl (plT l):=ct i.p1
theorem Iv.pl2 {l h:Nat} (i:Iv l h):Pl (plT h):=ct i.p2
def nvs (q:Nat→ap) (u:Nat→Value) (n:Nat):List Value:=(List.range (n*3)).map fun j=>if j % 3=0 then .bool (q (j / 3)).1 else if j % 3=1 then u (j / 3) else iV (q (j / 3)).2.2
theorem FQ (q:Nat→ap) (u:Nat→Value) {n j:Nat} (h:j<n):(nvs q u n)[j*3]?=some (.bool (q j).1)∧(nvs q u n)[j*3+1]?=some (u j)∧(nvs q u n)[j*3+2]?=some (iV (q j).2.2):=by
 unfold nvs;have h1:j*3 % 3=0:=by omega
 have h2:j*3 / 3=j:=by omega
 have h3:(j*3+1) % 3=1:=by omega
 have h4:(j*3+1) / 3=j:=by omega
 have h5:(j*3+2) % 3=2:=by omega
 have h6:(j*3+2) / 3=j:=by omega
 refine⟨?_,?_,?_⟩
 ·rw[List.getElem?_map,List.getElem?_range (by omega)];simp[h1,h2]
 ·rw[List.getElem?_map,List.getElem?_range (by omega)];simp[h3,h4]
 ·rw[List.getElem?_map,List.getElem?_range (by omega)];simp[h5,h6]
theorem Eb (q:Nat→ap) (u:Nat→Value) (n:Nat):nvs q u (n+1)=nvs q u n++[.bool (q n).1,u n,iV (q n).2.2]:=by
 unfold nvs;rw[show(n+1)*3=n*3+1+1+1 by omega,List.range_succ,List.range_succ,List.range_succ];have h1:n*3 % 3=0:=by omega
 have h2:n*3 / 3=n:=by omega
 have h3:(n*3+1) % 3=1:=by omega
 have h4:(n*3+1) / 3=n:=by omega
 have h5:(n*3+1+1) % 3=2:=by omega
 have h6:(n*3+1+1) / 3=n:=by omega
 simp[h1,h2,h3,h4,h5,h6]
theorem oX {q q':Nat→ap} {u u':Nat→Value} {n:Nat} (h:∀j,j<n→q j=q' j) (h':∀j,j<n→u j=u' j):nvs q u n=nvs q' u' n:=by
 unfold nvs;refine List.map_congr_left fun j hj=>?_
 have:=List.mem_range.1 hj;rw[h (j / 3) (by omega),h' (j / 3) (by omega)]
def NSl (W:World) (u:Value) (n:Nat):Prop:=∃o l c,u= .slice o l c∧l=(digits n).length∧aq W (.slice o l c) n
theorem NSl.below {W W':World} {u:Value} {n:Nat} (h:NSl W u n) (hb:Below W.heap.size W W'):NSl W' u n:=by
 obtain⟨o,l,c,h1,h2,h3⟩:=h;exact⟨o,l,c,h1,h2,h3.below hb ae⟩
structure NBl (b:Nat) (W:World) (v:Value) (n:Nat) (q:Nat→ap) (u:Nat→Value):Prop where
 own:W.ownsRow b 92 3 v n (nvs q u n)
 nat:∀j,j<n→NSl W (u j) (q j).2.1
def et (W:World) (v:Value) (n:Nat) (q:Nat→ap):Prop:=∃ao c,v= .slice ao n c∧(n=0∨∃g cur,ao=some ⟨g,0,none⟩∧W.heap[g]?=some (.cells cur 92 (0,0))∧∀j,j<n→∃o l c,cur[j*3]?=some (.bool (q j).1)∧cur[j*3+1]?=some (.slice o l c)∧cur[j*3+2]?=some (iV (q j).2.2)∧l=(digits (q j).2.1).length∧aq W (.slice o l c) (q j).2.1)
theorem et.below {W W':World} {v:Value} {n:Nat} {q:Nat→ap} (h:et W v n q) (hb:Below W.heap.size W W'):et W' v n q:=by
 obtain⟨ao,c,e,h⟩:=h;refine⟨ao,c,e,?_⟩;rcases h with h|⟨g,cur,e2,hg,h⟩
 ·exact .inl h
 ·refine .inr ⟨g,cur,e2,aa hg hb,fun j hj=>?_⟩;obtain⟨o,l,c,a1,a2,a3,a4,a5⟩:=h j hj;exact⟨o,l,c,a1,a2,a3,a4,a5.below hb ae⟩
theorem et.congr {W:World} {v:Value} {n:Nat} {q q':Nat→ap} (h:et W v n q) (e:∀j,j<n→q j=q' j):et W v n q':=by
 obtain⟨ao,c,e1,h⟩:=h;refine⟨ao,c,e1,?_⟩;rcases h with h|⟨g,cur,e2,hg,h⟩
 ·exact .inl h
 ·refine .inr ⟨g,cur,e2,hg,fun j hj=>?_⟩;rw[←e j hj];exact h j hj
theorem et.grown {W W':World} {v u:Value} {n b s m:Nat} {T:TypeId} {xs:List Value} {q:Nat→ap} (h:et W v n q) (ho:W.ownsRow b T s u m xs) (hg:W.grownBy W' u.ownBlock) (t1:T≠92) (t2:T≠3):et W' v n q:=by
 have key:∀(g:Nat) (cur:Array Value) (T':TypeId),T≠T'→W.heap[g]?=some (.cells cur T' (0,0))→W'.heap[g]?=some (.cells cur T' (0,0)):=by
  intro g cur T' ht hh;rw[hg.block g (ag hh) ?_]
  ·exact hh
  ·intro hu;obtain⟨-,⟨rfl,-⟩|⟨g',c,cur',rfl,-,k1,-⟩⟩:=ho
   ·simp[Value.ownBlock] at hu
   ·simp[Value.ownBlock] at hu;subst hu;rw[k1] at hh
    cases hh
    exact ht rfl
 obtain⟨ao,c,e,h⟩:=h;refine⟨ao,c,e,?_⟩;rcases h with h|⟨g,cur,e2,hg,h⟩
 ·exact .inl h
 ·refine .inr ⟨g,cur,e2,key g cur _ t1 hg,fun j hj=>?_⟩;obtain⟨o,l,c,a1,a2,a3,a4,a5⟩:=h j hj;exact⟨o,l,c,a1,a2,a3,a4,a5.keeps (fun g cur hh=>key g cur _ t2 hh)⟩
theorem et.at {W:World} {n c:Nat} {ao:Option Addr} {q:Nat→ap} (h:et W (.slice ao n c) n q) {j:Nat} (hj:j<n):∃g o l c',ao=some ⟨g,0,none⟩∧g<W.heap.size∧W.cell? ⟨g,j*3,none⟩=some (.bool (q j).1)∧W.cell? ⟨g,j*3+1,none⟩=some (.slice o l c')∧W.cell? ⟨g,j*3+2,none⟩=some (iV (q j).2.2)∧l=(digits (q j).2.1).length∧aq W (.slice o l c') (q j).2.1:=by
 obtain⟨ao',c',e,h⟩:=h
 cases e
 obtain⟨g,cur,e2,hg,h⟩:=h.resolve_left (by omega);obtain⟨o,l,c',a1,a2,a3,a4,a5⟩:=h j hj;exact⟨g,o,l,c',e2,ag hg,by rw[bf hg];exact a1,by rw[bf hg];exact a2,by rw[bf hg];exact a3,a4,a5⟩
theorem NBl.row {b:Nat} {W:World} {v:Value} {n:Nat} {q:Nat→ap} {u:Nat→Value} (h:NBl b W v n q u):et W v n q:=by
 obtain⟨⟨-,h1⟩,h2⟩:=h;rcases h1 with⟨rfl,h0⟩|⟨g,cap,cur,rfl,hb,k1,k2,k3,k4,k5⟩
 ·exact⟨none,0,by rw[h0],.inl h0⟩
 ·refine⟨_,cap,rfl,.inr ⟨g,cur,rfl,k1,fun j hj=>?_⟩⟩;obtain⟨o,l,c,e1,e2,e3⟩:=h2 j hj;obtain⟨a1,a2,a3⟩:=FQ q u hj;have key:∀i,i<n*3→cur[i]?=(nvs q u n)[i]?:=fun i hi=>by rw[←k5,List.getElem?_take_of_lt hi,Array.getElem?_toList]
  rw[←key _ (by omega)] at a1 a2 a3;exact⟨o,l,c,a1,by rw[a2,e1],a3,e2,e3⟩
theorem NBl.nil (b:Nat) (W:World) (q:Nat→ap) (u:Nat→Value):NBl b W (.slice none 0 0) 0 q u:=⟨⟨rfl,.inl ⟨rfl,rfl⟩⟩,fun j hj=>by omega⟩
theorem NBl.below {b:Nat} {W W':World} {v:Value} {n:Nat} {q:Nat→ap} {u:Nat→Value} (h:NBl b W v n q u) (hb:Below W.heap.size W W'):NBl b W' v n q u:=⟨aH h.own hb ae,fun j hj=>(h.nat j hj).below hb⟩
structure NMb (b:Nat) (W:World) (v:Value) (m n:Nat) (hv:Nat→Value) (Q:Nat→Nat→ap):Prop where
 own:W.ownsRow b 103 1 v m ((List.range m).map hv)
 row:∀i,i<m→et W (hv i) n (Q i)
theorem NMb.nil (b:Nat) (W:World) (n:Nat) (hv:Nat→Value) (Q:Nat→Nat→ap):NMb b W (.slice none 0 0) 0 n hv Q:=⟨⟨rfl,.inl ⟨rfl,rfl⟩⟩,fun j hj=>by omega⟩
theorem NMb.below {b:Nat} {W W':World} {v:Value} {m n:Nat} {hv:Nat→Value} {Q:Nat→Nat→ap} (h:NMb b W v m n hv Q) (hb:Below W.heap.size W W'):NMb b W' v m n hv Q:=⟨aH h.own hb ae,fun j hj=>(h.row j hj).below hb⟩
theorem D5 (hv:Nat→Value) (m:Nat) (x:Value):(List.range (m+1)).map (fun i=>if i=m then x else hv i)=(List.range m).map hv++[x]:=by
 rw[List.range_succ,List.map_append]
 congr 1
 ·refine List.map_congr_left fun j hj=>?_
  have:=List.mem_range.1 hj;rw[if_neg (by omega)]
 ·simp
theorem NMb.push {b:Nat} {W W1:World} {v v' r:Value} {m n:Nat} {hv:Nat→Value} {Q:Nat→Nat→ap} (h:NMb b W v m n hv Q) (hr:et W r n (Q m)) (ho:W1.ownsRow b 103 1 v' (m+1) ((List.range m).map hv++[r])) (hg:W.grownBy W1 v.ownBlock):NMb b W1 v' (m+1) n (fun i=>if i=m then r else hv i) Q:=by
 refine⟨by rw[D5];exact ho,fun i hi=>?_⟩;by_cases him:i=m
 ·subst him;rw[if_pos rfl];exact hr.grown h.own hg (by decide) (by decide)
 ·rw[if_neg him];exact(h.row i (by omega)).grown h.own hg (by decide) (by decide)
def qv (W:World) (v:Value) (n:Nat) (Q:Nat→Nat→ap):Prop:=∃ao c,v= .slice ao n c∧(n=0∨∃g,ao=some ⟨g,0,none⟩∧g<W.heap.size∧∀i,i<n→∃ro rc,W.cell? ⟨g,i,none⟩=some (.slice ro n rc)∧et W (.slice ro n rc) n (Q i))
theorem qv.below {W W':World} {v:Value} {n:Nat} {Q:Nat→Nat→ap} (h:qv W v n Q) (hb:Below W.heap.size W W'):qv W' v n Q:=by
 obtain⟨ao,c,e,h⟩:=h;refine⟨ao,c,e,?_⟩;rcases h with h|⟨g,e2,hg,h⟩
 ·exact .inl h
 ·refine .inr ⟨g,e2,Nat.lt_of_lt_of_le hg hb.size,fun i hi=>?_⟩;obtain⟨ro,rc,h1,h2⟩:=h i hi;exact⟨ro,rc,by rw[hb.cell (by exact hg)];exact h1,h2.below hb⟩
theorem NMb.mat {b:Nat} {W:World} {v:Value} {n:Nat} {hv:Nat→Value} {Q:Nat→Nat→ap} (h:NMb b W v n n hv Q):qv W v n Q:=by
 obtain⟨⟨-,h1⟩,h2⟩:=h;rcases h1 with⟨rfl,h0⟩|⟨g,cap,cur,rfl,hb,k1,k2,k3,k4,k5⟩
 ·exact⟨none,0,by rw[h0],.inl h0⟩
 ·refine⟨_,cap,rfl,.inr ⟨g,rfl,ag k1,fun j hj=>?_⟩⟩;have hr:=h2 j hj;obtain⟨ro,rc,e,-⟩:=id hr;refine⟨ro,rc,?_,by rw[←e];exact hr⟩;rw[bf k1,←Array.getElem?_toList,←List.getElem?_take_of_lt (show j<n*1 by omega),k5,List.getElem?_map,List.getElem?_range hj];simp[e]
structure NBk (W:World) (g:Nat) (x:ap) (o:Option Addr) (l c:Nat):Prop where
 blk:W.heap[g]?=some (.cells #[.bool x.1,.slice o l c,iV x.2.2] 92 (0,0))
 len:l=(digits x.2.1).length
 nat:aq W (.slice o l c) x.2.1
theorem NBk.below {W W':World} {g:Nat} {x:ap} {o:Option Addr} {l c:Nat} (h:NBk W g x o l c) (hb:Below W.heap.size W W'):NBk W' g x o l c:=⟨aa h.blk hb,h.len,h.nat.below hb ae⟩
def cB (p:Nat×Nat):Nat×Nat:=((makeN p.1 p.2).1,(makeN p.1 p.2).2.1)
def Shp (na d n:Nat):Prop:=n≠0∧n≤4∧d≠0∧(n=1∧na=1∨n≠1∧d=n∧na=n*n)
def pbP (p:Int):Int:=if 0<p∧p<553942754166571008 then 0 else if p<0∧-553942754166571008<p then -553942754166571008 else p
theorem xe {p q:Int} (h:p≤q):pbP p≤pbP q:=by
 unfold pbP;repeat' split
 all_goals omega
theorem xv (p:Int):pbP p≤p:=by
 unfold pbP;repeat' split
 all_goals omega
def pq (p:Int):Rat:=if p=0 then 0 else if p<0 then -rvQ (-p) else rvQ p
theorem Gy (p:Int):pq (-p)=-pq p:=by
 unfold pq;rcases(show p<0∨p=0∨0<p by omega) with h|h|h
 ·rw[if_neg (by omega),if_neg (by omega),if_neg (by omega),if_pos h];grind
 ·rw[if_pos (by omega),if_pos h];grind
 ·rw[if_neg (by omega),if_pos (by omega),if_neg (by omega),if_neg (by omega),Int.neg_neg]
theorem pE {p q:Int} (h:p≤q):pq p≤pq q:=by
 unfold pq;have h1:=jl p;have h2:=jl q;have h3:=jl (-p);have h4:=jl (-q);rcases(show p<0∨p=0∨0<p by omega) with a|a|a<;>rcases(show q<0∨q=0∨0<q by omega) with b|b|b
 ·rw[if_neg (by omega),if_pos a,if_neg (by omega),if_pos b];have:=gK (r:=-q) (t:=-p) (by omega);grind
 ·rw[if_neg (by omega),if_pos a,if_pos b];grind
 ·rw[if_neg (by omega),if_pos a,if_neg (by omega),if_neg (by omega)];grind
 ·omega
 ·rw[if_pos a,if_pos b];grind
 ·rw[if_pos a,if_neg (by omega),if_neg (by omega)];grind
 ·omega
 ·omega
 ·rw[if_neg (by omega),if_neg (by omega),if_neg (by omega),if_neg (by omega)];exact gK h
theorem zR {p q:Int} (h:p<q):pq p<pq q:=by
 unfold pq;have h1:=jl p;have h2:=jl q;have h3:=jl (-p);have h4:=jl (-q)
 have m:∀r t:Int,r<t→rvQ r<rvQ t:=by
  intro r t ht;have a:=(pP r).1;have b:=gK (r:=r+1) (t:=t) (by omega);grind
 rcases(show p<0∨p=0∨0<p by omega) with a|a|a<;>rcases(show q<0∨q=0∨0<q by omega) with b|b|b
 ·rw[if_neg (by omega),if_pos a,if_neg (by omega),if_pos b];have:=m (-q) (-p) (by omega);grind
 ·rw[if_neg (by omega),if_pos a,if_pos b];grind
 ·rw[if_neg (by omega),if_pos a,if_neg (by omega),if_neg (by omega)];grind
 ·omega
 ·omega
 ·rw[if_pos a,if_neg (by omega),if_neg (by omega)];exact h2
 ·omega
 ·omega
 ·rw[if_neg (by omega),if_neg (by omega),if_neg (by omega),if_neg (by omega)];exact m p q h
theorem ml {p:Int} (h:plP p=true):aI (plT (wdP p))=pq p:=by
 unfold plP at h;rw[decide_eq_true_eq] at h;unfold pq;by_cases h0:p=0
 ·rw[if_pos h0,h0,nF,kV];exact dH rfl
 ·rw[if_neg h0]
  have hp:plT (wdP p)=(decide (p<0),p.natAbs % 4503599627370496+4503599627370496,((p.natAbs / 4503599627370496:Nat):Int)-1075):=by
   unfold plT wdP;rw[lM _ (by omega) (by omega)];rfl
  rw[hp]
  have hr:rvQ (p.natAbs:Int)=((p.natAbs % 4503599627370496+4503599627370496:Nat):Rat)*pw (((p.natAbs / 4503599627370496:Nat):Int)-1075):=by
   rw[jT (m:=((p.natAbs % 4503599627370496+4503599627370496:Nat):Int)) (e:=((p.natAbs / 4503599627370496:Nat):Int)-1075) (by omega) (by omega) (by omega),Rat.intCast_natCast]
  unfold aI sg;simp only;by_cases hn:p<0
  ·rw[decide_eq_true hn,if_pos rfl,if_pos hn,show -p=(p.natAbs:Int) by omega,hr,Rat.intCast_neg,Rat.intCast_natCast];grind
  ·rw[decide_eq_false hn,if_neg Bool.false_ne_true,if_neg hn,show rvQ p=rvQ (p.natAbs:Int) by congr 1;omega,hr,Rat.intCast_natCast]
theorem vJ:rvQ 553942754166571008=pw (-900):=by
 rw[jT (m:=4503599627370496) (e:=-952) (by decide) (by decide) (by decide)];rw[show((4503599627370496:Int):Rat)=pw ((52:Nat):Int) by rw[eU];rfl,←bT];rfl
theorem Gk:rvQ 8655918483806093312=pw 899:=by
 rw[jT (m:=4503599627370496) (e:=847) (by decide) (by decide) (by decide)];rw[show((4503599627370496:Int):Rat)=pw ((52:Nat):Int) by rw[eU];rfl,←bT];rfl
theorem mq {x:ap} {q:Rat} (h:BR x q):
  (-8660422083433463808≤ar x (-1)→pq (pbP (ar x (-1)))≤q)∧(bd (pw 899) q→plP (pbP (ar x (-1)))=true∧Rnd (pw (-900)) (pq (pbP (ar x (-1)))) q):=by
 have e0:=eC;have p0:=d9 (-900);rcases h with⟨h0,rfl⟩|⟨h0,E,rfl,h1,h2⟩
 ·have:ar x (-1)=0:=by unfold ar;rw[if_pos h0]
  rw[this];have e1:pbP 0=0:=rfl;have e2:pq 0=0:=by unfold pq;rw[if_pos rfl]
  rw[e1,e2];refine⟨fun _=>by grind,fun _=>⟨rfl,fun B hB=>?_,fun _=>rfl⟩⟩;have:=kl hB;have:=Rat.mul_nonneg (Rat.le_of_lt e0) this;unfold bd;constructor<;>grind
 ·have hp:ar x (-1)=sgI x.1 (aX (endR x.1 x.2.1 x.2.2 (-1))):=by unfold ar;rw[if_neg h0]
  have hend:endR x.1 x.2.1 x.2.2 (-1)=rung x.2.1 x.2.2+if x.1 && aP x.2.1 then 1 else 0:=by unfold endR;rw[jf]
  rw[hp,hend];have r0:=jl (rung x.2.1 x.2.2);have rs:=pP (rung x.2.1 x.2.2);have hE0:0<E:=by grind
  have hi:E≤rvQ (rung x.2.1 x.2.2+1):=by
   have:rvQ (rung x.2.1 x.2.2+if aP x.2.1 then 1 else 0)≤rvQ (rung x.2.1 x.2.2+1):=gK (by split<;>omega);grind
  have htop:E≤pw 899→rung x.2.1 x.2.2≤8655918483806093312:=by
   intro hE;apply Decidable.byContradiction;intro hc;have a:=gK (r:=8655918483806093312+1) (t:=rung x.2.1 x.2.2) (by omega);have b:=(pP 8655918483806093312).1;rw[Gk] at b;grind
  cases hs:x.1
  ·
   simp only[Bool.false_and,Bool.false_eq_true,if_false,Int.add_zero];generalize rung x.2.1 x.2.2=r at*;have hsg:sgI false (aX r)=aX r:=by unfold sgI;rw[if_neg Bool.false_ne_true]
   rw[hsg];have sh:∀y:Rat,y≤E→(∀B,bd B E→bd (eps*B+pw (-900)) (y-E))→(Rnd (pw (-900)) y E):=fun y _ hB=>⟨hB,fun hz=>by grind⟩
   rcases cZ r with⟨c1,c2⟩|⟨c1,c2⟩|⟨c1,c3,c2⟩
   ·rw[c2];have e1:pbP 553942754166571007=0:=by decide
    have e2:pq 0=0:=by unfold pq;rw[if_pos rfl]
    rw[e1,e2];refine⟨fun _=>by grind,fun _=>⟨rfl,sh 0 (by grind) fun B hB=>?_⟩⟩;have hm:rvQ (r+1)≤rvQ 553942754166571008:=gK (by omega);rw[vJ] at hm;have:=Rat.mul_nonneg (Rat.le_of_lt e0) (kl hB);unfold bd;constructor<;>grind
   ·rw[c2]
    have hq:pq (pbP 8660422083433463809)≤E:=by
     have e1:pbP 8660422083433463809=8660422083433463809:=by decide
     have e2:pq 8660422083433463809=rvQ 8660422083433463809:=by unfold pq;rw[if_neg (by decide),if_neg (by decide)]
     rw[e1,e2];have:=gK (r:=8660422083433463809) (t:=r) (by omega);grind
    refine⟨fun _=>hq,fun hB=>?_⟩;have:=htop hB.2;omega
   ·rw[c2];have e1:pbP r=r:=by unfold pbP;rw[if_neg (by omega),if_neg (by omega)]
    have e2:pq r=rvQ r:=by unfold pq;rw[if_neg (by omega),if_neg (by omega)]
    rw[e1,e2];refine⟨fun _=>h1,fun _=>⟨by unfold plP;exact decide_eq_true (by omega),sh _ h1 fun B hB=>?_⟩⟩;have k1:=aV (Rat.le_of_lt e0) hB.2;have k2:=aV (Rat.le_of_lt e0) h1;unfold bd;constructor<;>grind
  ·
   simp only[Bool.true_and,if_true];have hc:∀b:Bool,(0:Int)≤(if b then 1 else 0)∧(if b then(1:Int) else 0)≤1:=by intro b;cases b<;>decide
   have hcx:=hc (aP x.2.1);generalize(if aP x.2.1=true then(1:Int) else 0)=c at*;generalize rung x.2.1 x.2.2=r at*;have hsg:sgI true (aX (r+c))=-aX (r+c):=by unfold sgI;rw[if_pos rfl]
   rw[hsg];have hm1:rvQ (r+c)≤rvQ (r+1):=gK (by omega);rcases cZ (r+c) with⟨c1,c2⟩|⟨c1,c2⟩|⟨c1,c3,c2⟩
   ·rw[c2];have e1:pbP (-553942754166571007)=-553942754166571008:=by decide
    have e2:pq (-553942754166571008)=-rvQ 553942754166571008:=by unfold pq;rw[if_neg (by decide),if_pos (by decide)];rfl
    rw[e1,e2,vJ];have hm:rvQ (r+c)≤rvQ 553942754166571008:=gK (by omega);rw[vJ] at hm;refine⟨fun _=>by grind,fun _=>⟨by decide,fun B hB=>?_,fun hz=>by grind⟩⟩;have:=Rat.mul_nonneg (Rat.le_of_lt e0) (kl hB);unfold bd;constructor<;>grind
   ·rw[c2];refine⟨fun hc=>absurd hc (by decide),fun hB=>?_⟩;have:=htop (by unfold bd at hB;grind);omega
   ·rw[c2];have e1:pbP (-(r+c))=-(r+c):=by unfold pbP;rw[if_neg (by omega),if_neg (by omega)]
    have e2:pq (-(r+c))=-rvQ (r+c):=by unfold pq;rw[if_neg (by omega),if_pos (by omega),Int.neg_neg]
    rw[e1,e2];refine⟨fun _=>by grind,fun _=>⟨by unfold plP;exact decide_eq_true (by omega),fun B hB=>?_,fun hz=>by grind⟩⟩;have k1:=aV (Rat.le_of_lt e0) (show E≤B by unfold bd at hB;grind);have k2:=aV (Rat.le_of_lt e0) h1;unfold bd;constructor<;>grind
theorem ED (x:ap):ar (bC x) (-1)=-ar x 1:=by
 obtain⟨s,n,e⟩:=x;unfold ar bC;simp only;by_cases h0:n=0
 ·rw[if_pos h0,if_pos h0];rfl
 ·rw[if_neg h0,if_neg h0];have:aQ s n=!s:=by unfold aQ;rw[decide_eq_true h0,Bool.and_true]
  rw[this];have he:endR (!s) n e (-1)=endR s n e 1:=by unfold endR;rw[jf,mt]
  rw[he];unfold sgI
  cases s<;>simp
def paP (p:Int):Int:=-pbP (-p)
theorem F6 (p:Int):plP (-p)=plP p:=by
 unfold plP;rw[Int.natAbs_neg];apply decide_eq_decide.2;constructor<;>intro h<;>omega
theorem nj {x:ap} {q:Rat} (h:BR x q):
  (ar x 1≤8660422083433463808→q≤pq (paP (ar x 1)))∧(bd (pw 899) q→plP (paP (ar x 1))=true∧Rnd (pw (-900)) (pq (paP (ar x 1))) q):=by
 have:=mq (Gm h);rw[ED] at this;unfold paP;rw[F6,Gy];obtain⟨k1,k2⟩:=this;refine⟨fun hp=>by have:=k1 (by omega);grind,fun hB=>?_⟩;obtain⟨a,b⟩:=k2 (vU hB);refine⟨a,fun B hB=>?_,fun hz=>?_⟩
 ·have:=b.near B (vU hB);have:=vU this;rwa [show -(pq (pbP (-ar x 1)) - -q)=-pq (pbP (-ar x 1))-q by grind] at this
 ·have:=b.zero (by grind);grind
def aF (w:Nat):Rat:=aI (plT w)
def eS (p q:Int):Option (Nat×Nat):=if plP (pbP p)=true∧plP (paP q)=true then some (wdP (pbP p),wdP (paP q)) else none
def pz (f:ap→ap→ap) (a b:Nat×Nat):Option (Nat×Nat):=
 eS (min (min (min (ar (f (plT a.1) (plT b.1)) (-1)) (ar (f (plT a.1) (plT b.2)) (-1))) (ar (f (plT a.2) (plT b.1)) (-1))) (ar (f (plT a.2) (plT b.2)) (-1)))
  (max (max (max (ar (f (plT a.1) (plT b.1)) 1) (ar (f (plT a.1) (plT b.2)) 1)) (ar (f (plT a.2) (plT b.1)) 1)) (ar (f (plT a.2) (plT b.2)) 1))
def muX (a b:Nat×Nat):Option (Nat×Nat):=pz aT a b
def quX (a b:Nat×Nat):Option (Nat×Nat):=pz quoN a b
def suX (a b:Nat×Nat):Option (Nat×Nat):=eS (ar (sumT (plT a.1) (bC (plT b.2))) (-1)) (ar (sumT (plT a.2) (bC (plT b.1))) 1)
theorem Fg {p:Int} (h:plP p=true):FR (wdP p) p:=by
 unfold plP at h;rw[decide_eq_true_eq] at h;unfold wdP;by_cases h0:p=0
 ·subst h0;exact jb
 ·have e1:wd (decide (p<0)) p.natAbs % 9223372036854775808=p.natAbs:=by unfold wd;split<;>omega
  refine⟨by unfold wd;split<;>omega,by unfold wd;split<;>omega,by omega,?_⟩;unfold aW;rw[e1,if_neg (by omega)];have hc:aX ((p.natAbs:Nat):Int)=p.natAbs:=by unfold aX;rw[if_neg (by omega),if_neg (by omega)]
  rw[hc];unfold sgI;by_cases hn:p<0
  ·have:9223372036854775808≤wd (decide (p<0)) p.natAbs:=by unfold wd;rw[decide_eq_true hn,if_pos rfl];omega
   rw[decide_eq_true this,if_pos rfl];omega
  ·have:¬9223372036854775808≤wd (decide (p<0)) p.natAbs:=by unfold wd;rw[decide_eq_false hn,if_neg Bool.false_ne_true];omega
   rw[decide_eq_false this,if_neg Bool.false_ne_true];omega
theorem Hd {p q:Int} (h1:plP p=true) (h2:plP q=true) (h:p≤q):Iv (wdP p) (wdP q):=by
 have f1:=Fg h1;have f2:=Fg h2;exact⟨f1.lt,f2.lt,f1.nz,f2.nz,cC (by rw[f1.plain];exact h1),cC (by rw[f2.plain];exact h2),by rw[f1.pos,f2.pos];exact h⟩
theorem Iv.w1 {l h:Nat} (i:Iv l h):aF l=pq (aW l):=by
 unfold aF;have:=ml i.q1;rwa [←i.f1.word i.q1] at this
theorem Iv.w2 {l h:Nat} (i:Iv l h):aF h=pq (aW h):=by
 unfold aF;have:=ml i.q2;rwa [←i.f2.word i.q2] at this
theorem Iv.vle {l h:Nat} (i:Iv l h):aF l≤aF h:=by rw[i.w1,i.w2];exact pE i.le
theorem sw {p:Int} (h:plP p=true):-8660422083433463808≤p∧p≤8660422083433463808:=by
 unfold plP at h;rw[decide_eq_true_eq] at h;omega
theorem D4 {p q:Int} (h:p≤q):paP p≤paP q:=by unfold paP;have:=xe (p:=-q) (q:=-p) (by omega);omega
theorem CB (p:Int):p≤paP p:=by unfold paP;have:=xv (-p);omega
theorem j7 {p q:Int} {c:Nat×Nat} (h:eS p q=some c) (hpq:p≤q):Iv c.1 c.2∧aF c.1=pq (pbP p)∧aF c.2=pq (paP q)∧-8660422083433463808≤p∧q≤8660422083433463808:=by
 unfold eS at h;split at h
 ·rename_i hp
  obtain rfl:=Option.some.inj h;have b1:=sw hp.1;have b2:=sw hp.2;have l1:=xv p;have l2:=CB q;exact⟨Hd hp.1 hp.2 (by omega),ml hp.1,ml hp.2,by omega,by omega⟩
 ·cases h
theorem mT {a1 a2 b1 b2 x y L:Rat} (hx:a1≤x∧x≤a2) (hy:b1≤y∧y≤b2) (h1:L≤a1*b1) (h2:L≤a1*b2) (h3:L≤a2*b1) (h4:L≤a2*b2):L≤x*y:=by
 have key:∀b,L≤a1*b→L≤a2*b→L≤x*b:=by
  intro b k1 k2;rcases(show 0≤b∨b≤0 by grind) with hb|hb
  ·have:=bu hb hx.1;grind
  ·have:=bu (show 0≤-b by grind) hx.2;grind
 have k1:=key b1 h1 h3;have k2:=key b2 h2 h4;rcases(show 0≤x∨x≤0 by grind) with h|h
 ·have:=aV h hy.1;grind
 ·have:=aV (show 0≤-x by grind) hy.2;grind
theorem pU {a1 a2 b1 b2 x y L:Rat} (hx:a1≤x∧x≤a2) (hy:b1≤y∧y≤b2) (h1:a1*b1≤L) (h2:a1*b2≤L) (h3:a2*b1≤L) (h4:a2*b2≤L):x*y≤L:=by
 have:=mT (a1:=-a2) (a2:=-a1) (x:=-x) (L:=-L) (by grind) hy (by grind) (by grind) (by grind) (by grind);grind
theorem BV (a b c d:Int):min (min (min a b) c) d=a∨min (min (min a b) c) d=b∨min (min (min a b) c) d=c∨min (min (min a b) c) d=d:=by omega
theorem Bn (a b c d:Int):max (max (max a b) c) d=a∨max (max (max a b) c) d=b∨max (max (max a b) c) d=c∨max (max (max a b) c) d=d:=by omega
theorem gC {f:ap→ap→ap} {a b:Nat×Nat} {g:Nat→Nat→Rat} (hb:∀i j,(i=a.1∨i=a.2)→(j=b.1∨j=b.2)→BR (f (plT i) (plT j)) (g i j)):
  (∀c,pz f a b=some c→Iv c.1 c.2∧∀i j,(i=a.1∨i=a.2)→(j=b.1∨j=b.2)→aF c.1≤g i j∧g i j≤aF c.2)∧
  (∀B,(∀i j,(i=a.1∨i=a.2)→(j=b.1∨j=b.2)→bd B (g i j))→B≤pw 899→∃c,pz f a b=some c∧Iv c.1 c.2∧(∃i j,(i=a.1∨i=a.2)∧(j=b.1∨j=b.2)∧Rnd (pw (-900)) (aF c.1) (g i j))∧(∃i j,(i=a.1∨i=a.2)∧(j=b.1∨j=b.2)∧Rnd (pw (-900)) (aF c.2) (g i j))):=by
 unfold pz;have p:∀i j,(i=a.1∨i=a.2)→(j=b.1∨j=b.2)→ar (f (plT i) (plT j)) (-1)≤ar (f (plT i) (plT j)) 1:=fun i j _ _=>iX _
 have lows:∀i j,(i=a.1∨i=a.2)→(j=b.1∨j=b.2)→min (min (min (ar (f (plT a.1) (plT b.1)) (-1)) (ar (f (plT a.1) (plT b.2)) (-1))) (ar (f (plT a.2) (plT b.1)) (-1))) (ar (f (plT a.2) (plT b.2)) (-1))≤ar (f (plT i) (plT j)) (-1):=by
  rintro i j (rfl|rfl) (rfl|rfl)<;>omega
 have highs:∀i j,(i=a.1∨i=a.2)→(j=b.1∨j=b.2)→ar (f (plT i) (plT j)) 1≤max (max (max (ar (f (plT a.1) (plT b.1)) 1) (ar (f (plT a.1) (plT b.2)) 1)) (ar (f (plT a.2) (plT b.1)) 1)) (ar (f (plT a.2) (plT b.2)) 1):=by
  rintro i j (rfl|rfl) (rfl|rfl)<;>omega
 have pickL:∃i j,(i=a.1∨i=a.2)∧(j=b.1∨j=b.2)∧min (min (min (ar (f (plT a.1) (plT b.1)) (-1)) (ar (f (plT a.1) (plT b.2)) (-1))) (ar (f (plT a.2) (plT b.1)) (-1))) (ar (f (plT a.2) (plT b.2)) (-1))=ar (f (plT i) (plT j)) (-1):=by
  rcases BV (ar (f (plT a.1) (plT b.1)) (-1)) (ar (f (plT a.1) (plT b.2)) (-1)) (ar (f (plT a.2) (plT b.1)) (-1)) (ar (f (plT a.2) (plT b.2)) (-1)) with h|h|h|h
  ·exact⟨_,_,.inl rfl,.inl rfl,h⟩
  ·exact⟨_,_,.inl rfl,.inr rfl,h⟩
  ·exact⟨_,_,.inr rfl,.inl rfl,h⟩
  ·exact⟨_,_,.inr rfl,.inr rfl,h⟩
 have pickH:∃i j,(i=a.1∨i=a.2)∧(j=b.1∨j=b.2)∧max (max (max (ar (f (plT a.1) (plT b.1)) 1) (ar (f (plT a.1) (plT b.2)) 1)) (ar (f (plT a.2) (plT b.1)) 1)) (ar (f (plT a.2) (plT b.2)) 1)=ar (f (plT i) (plT j)) 1:=by
  rcases Bn (ar (f (plT a.1) (plT b.1)) 1) (ar (f (plT a.1) (plT b.2)) 1) (ar (f (plT a.2) (plT b.1)) 1) (ar (f (plT a.2) (plT b.2)) 1) with h|h|h|h
  ·exact⟨_,_,.inl rfl,.inl rfl,h⟩
  ·exact⟨_,_,.inl rfl,.inr rfl,h⟩
  ·exact⟨_,_,.inr rfl,.inl rfl,h⟩
  ·exact⟨_,_,.inr rfl,.inr rfl,h⟩
 generalize min (min (min (ar (f (plT a.1) (plT b.1)) (-1)) (ar (f (plT a.1) (plT b.2)) (-1))) (ar (f (plT a.2) (plT b.1)) (-1))) (ar (f (plT a.2) (plT b.2)) (-1))=P at*;generalize max (max (max (ar (f (plT a.1) (plT b.1)) 1) (ar (f (plT a.1) (plT b.2)) 1)) (ar (f (plT a.2) (plT b.1)) 1)) (ar (f (plT a.2) (plT b.2)) 1)=Q at*
 have hPQ:P≤Q:=by
  have a1:=lows a.1 b.1 (.inl rfl) (.inl rfl);have a2:=highs a.1 b.1 (.inl rfl) (.inl rfl);have a3:=p a.1 b.1 (.inl rfl) (.inl rfl);omega
 constructor
 ·intro c hc;obtain⟨iv,v1,v2,h1,h2⟩:=j7 hc hPQ;refine⟨iv,fun i j hi hj=>?_⟩;have l:=lows i j hi hj;have h:=highs i j hi hj;have e1:=(mq (hb i j hi hj)).1 (by omega);have e2:=(nj (hb i j hi hj)).1 (by omega);have m1:=pE (xe l);have m2:=pE (D4 h);rw[v1,v2];constructor<;>grind
 ·intro B hB hBig;obtain⟨i,j,hi,hj,rfl⟩:=pickL;obtain⟨k,l,hk,hl,rfl⟩:=pickH;obtain⟨q1,r1⟩:=(mq (hb i j hi hj)).2 (cE (hB i j hi hj) hBig);obtain⟨q2,r2⟩:=(nj (hb k l hk hl)).2 (cE (hB k l hk hl) hBig);have hc:eS (ar (f (plT i) (plT j)) (-1)) (ar (f (plT k) (plT l)) 1)=some (wdP (pbP (ar (f (plT i) (plT j)) (-1))),wdP (paP (ar (f (plT k) (plT l)) 1))):=by unfold eS;rw[if_pos ⟨q1,q2⟩]
  obtain⟨iv,v1,v2,_,_⟩:=j7 hc hPQ;refine⟨_,hc,iv,⟨i,j,hi,hj,?_⟩,⟨k,l,hk,hl,?_⟩⟩
  ·rw[v1];exact r1
  ·rw[v2];exact r2
def cn (a:Nat×Nat) (x:Rat):Prop:=aF a.1≤x∧x≤aF a.2
def ivW (a:Nat×Nat):Prop:=Iv a.1 a.2
theorem xf (i j:Nat):BR (aT (plT i) (plT j)) (aF i*aF j):=by
 have:=vw (aT (plT i) (plT j));rwa [iU] at this
theorem rB (i j:Nat):BR (sumT (plT i) (bC (plT j))) (aF i-aF j):=by
 have:=vw (sumT (plT i) (bC (plT j)));rw[mL,pJ] at this;rwa [show aI (plT i)+-aI (plT j)=aF i-aF j by unfold aF;grind] at this
theorem Gl {a b c:Nat×Nat} {x y:Rat} (h:muX a b=some c) (hx:cn a x) (hy:cn b y):cn c (x*y):=by
 have:=(gC (f:=aT) (a:=a) (b:=b) (g:=fun i j=>aF i*aF j) (fun i j _ _=>xf i j)).1 c h;obtain⟨_,k⟩:=this;have k1:=k a.1 b.1 (.inl rfl) (.inl rfl);have k2:=k a.1 b.2 (.inl rfl) (.inr rfl);have k3:=k a.2 b.1 (.inr rfl) (.inl rfl);have k4:=k a.2 b.2 (.inr rfl) (.inr rfl);exact⟨mT hx hy k1.1 k2.1 k3.1 k4.1,pU hx hy k1.2 k2.2 k3.2 k4.2⟩
theorem Ad {a b c:Nat×Nat} (h:muX a b=some c):ivW c:=((gC (f:=aT) (a:=a) (b:=b) (g:=fun i j=>aF i*aF j) (fun i j _ _=>xf i j)).1 c h).1
theorem u6 {a b:Nat×Nat} (ha:ivW a) (hb:ivW b):ar (sumT (plT a.1) (bC (plT b.2))) (-1)≤ar (sumT (plT a.2) (bC (plT b.1))) 1:=by
 have h1:=iX (sumT (plT a.1) (bC (plT b.2)))
 have h2:leV (sumT (plT a.1) (bC (plT b.2))) (sumT (plT a.2) (bC (plT b.1))):=by
  have A:=rj ha;have B:=rj hb;obtain⟨x,hx⟩:∃x,x=plT a.1:=⟨_,rfl⟩;obtain⟨y,hy⟩:∃y,y=plT a.2:=⟨_,rfl⟩;obtain⟨z,hz⟩:∃z,z=plT b.1:=⟨_,rfl⟩;obtain⟨t,ht⟩:∃t,t=plT b.2:=⟨_,rfl⟩;rw[←hx,←hy] at A;rw[←hz,←ht] at B;rw[←hx,←hy,←hz,←ht];have e:∃e:Int,e≤x.2.2∧e≤y.2.2∧e≤z.2.2∧e≤t.2.2:=⟨min (min x.2.2 y.2.2) (min z.2.2 t.2.2),by omega,by omega,by omega,by omega⟩;obtain⟨e,e1,e2,e3,e4⟩:=e;have lA:=jr A e1 e2;have lB:=jr B e3 e4;exact bY (dx (bk x e1) (kk (bk t e4))) (dx (bk y e2) (kk (bk z e3))) (by omega)
 have h3:=cj 1 (.inr rfl) h2;omega
theorem GH {a b c:Nat×Nat} {x y:Rat} (ia:ivW a) (ib:ivW b) (h:suX a b=some c) (hx:cn a x) (hy:cn b y):cn c (x-y):=by
 obtain⟨iv,v1,v2,h1,h2⟩:=j7 h (u6 ia ib);have e1:=(mq (rB a.1 b.2)).1 h1;have e2:=(nj (rB a.2 b.1)).1 h2;unfold cn at*;rw[v1,v2];constructor<;>grind
theorem E4 {a b c:Nat×Nat} (ia:ivW a) (ib:ivW b) (h:suX a b=some c):ivW c:=(j7 h (u6 ia ib)).1
def absW (w:Nat):Nat:=w % 9223372036854775808
def lsW (a:Nat×Nat):Nat:=if holdsT (plT a.1) (plT a.2)=true then 0 else fmin (absW a.1) (absW a.2)
def gtW (a:Nat×Nat):Nat:=fmax (absW a.1) (absW a.2)
def dvW (x y:Nat):Nat:=(double.div x y).getD 0
def shJ (row:Nat→Nat×Nat) (least best:Nat):Nat→Nat→Nat→Option Nat
 |0,_,sh=>some sh
 |f+1,j,sh=>if kw (fmin sh (dvW least (gtW (row j))))≤kw best then none else shJ row least best f (j+1) (fmin sh (dvW least (gtW (row j))))
def pvI (M:Nat→Nat→Nat×Nat) (n k:Nat):Nat→Nat→Nat→Option Nat→Option Nat
 |0,_,_,at_=>at_
 |f+1,i,best,at_=>if lsW (M i k)=0 then pvI M n k f (i+1) best at_ else match shJ (M i) (lsW (M i k)) best (n-k) k 4607182418800017408 with
  |none=>pvI M n k f (i+1) best at_
  |some s=>pvI M n k f (i+1) s (some i)
def pvX (M:Nat→Nat→Nat×Nat) (n k:Nat):Option Nat:=pvI M n k (n-k) k 0 none
theorem nP {M:Nat→Nat→Nat×Nat} {n k a:Nat}:∀(f i best:Nat) (at_:Option Nat),pvI M n k f i best at_=some a→(at_=some a∨(i≤a∧a<i+f∧lsW (M a k)≠0))
 |0,_,_,_,h=>.inl h
 |f+1,i,best,at_,h=>by
  unfold pvI at h;split at h
  ·rcases nP f (i+1) best at_ h with h|⟨h1,h2,h3⟩
   ·exact .inl h
   ·exact .inr ⟨by omega,by omega,h3⟩
  ·rename_i hl
   split at h
   ·rcases nP f (i+1) best at_ h with h|⟨h1,h2,h3⟩
    ·exact .inl h
    ·exact .inr ⟨by omega,by omega,h3⟩
   ·rcases nP f (i+1) _ _ h with h|⟨h1,h2,h3⟩
    ·obtain rfl:=Option.some.inj h;exact .inr ⟨by omega,by omega,hl⟩
    ·exact .inr ⟨by omega,by omega,h3⟩
theorem dY (x:ap):(sgnI x.1 x.2.1≤0↔aI x≤0)∧(0≤sgnI x.1 x.2.1↔0≤aI x):=by
 have hp:=d9 x.2.2;unfold sgnI aI sg;by_cases h0:x.2.1=0
 ·rw[if_pos h0,h0]
  cases x.1<;>simp
 ·rw[if_neg h0];have hn:(0:Rat)<((x.2.1:Nat):Rat):=Rat.natCast_pos.2 (by omega);have:=Rat.mul_pos hn hp
  cases x.1
  ·simp only[Bool.false_eq_true,if_false];rw[Rat.intCast_natCast];constructor
   ·constructor<;>intro h
    ·omega
    ·grind
   ·constructor<;>intro h
    ·grind
    ·omega
  ·simp only[if_true];rw[Rat.intCast_neg,Rat.intCast_natCast];constructor
   ·constructor<;>intro h
    ·grind
    ·omega
   ·constructor<;>intro h
    ·omega
    ·grind
theorem j9 (a:Nat×Nat):holdsT (plT a.1) (plT a.2)=true↔cn a 0:=by
 unfold holdsT cn aF;rw[Bool.and_eq_true,decide_eq_true_eq,decide_eq_true_eq,(dY _).1,(dY _).2]
def H9 (a:Nat×Nat) (x:Rat):Prop:=ivW a∧cn a x
theorem yf {b1 b2 y:Rat} (hy:b1≤y∧y≤b2) (h:0<b1∨b2<0):1 / b2≤1 / y∧1 / y≤1 / b1:=by
 have key:∀u v:Rat,u≤v→(0<u∨v<0)→1 / v≤1 / u:=by
  intro u v huv hs;have hu:u≠0:=by grind
  have hv:v≠0:=by grind
  have huv0:0<u*v:=by
   rcases hs with hs|hs
   ·exact Rat.mul_pos hs (by grind)
   ·have:=Rat.mul_pos (show 0< -u by grind) (show 0< -v by grind);grind
  apply Decidable.byContradiction;intro hc;have:=Rat.mul_pos (show 0<1 / v-1 / u by grind) huv0;have e1:1 / v*(u*v)=u:=by grind
  have e2:1 / u*(u*v)=v:=by grind
  grind
 constructor
 ·exact key y b2 hy.2 (by grind)
 ·exact key b1 y hy.1 (by grind)
theorem oO {b:Nat×Nat} (i:ivW b) (h:¬cn b 0):0<aF b.1∨aF b.2<0:=by
 have:=Iv.vle i;unfold cn at h;grind
theorem Gq {w:Nat} (h:aF w≠0):(plT w).2.1≠0:=fun hc=>h (dH hc)
theorem mv {a b:Nat×Nat} (ia:ivW a) (ib:ivW b) (h:¬cn b 0):∀i j,(i=a.1∨i=a.2)→(j=b.1∨j=b.2)→BR (quoN (plT i) (plT j)) (aF i / aF j):=by
 intro i j hi hj;have hs:=oO ib h;have hle:=Iv.vle ib;have h0:aF j≠0:=by rcases hj with rfl|rfl<;>grind
 have hi2:eA (plT i):=by
  rcases hi with rfl|rfl
  ·exact cD ia.p1
  ·exact cD ia.p2
 have hj2:eA (plT j):=by
  rcases hj with rfl|rfl
  ·exact cD ib.p1
  ·exact cD ib.p2
 exact Gi hi2 hj2 (Gq h0)
theorem Gu {a b c:Nat×Nat} {x y:Rat} (ia:ivW a) (ib:ivW b) (h0:¬cn b 0) (h:quX a b=some c) (hx:cn a x) (hy:cn b y):cn c (x / y):=by
 obtain⟨_,k⟩:=(gC (f:=quoN) (a:=a) (b:=b) (g:=fun i j=>aF i / aF j) (mv ia ib h0)).1 c h;have k1:=k a.1 b.1 (.inl rfl) (.inl rfl);have k2:=k a.1 b.2 (.inl rfl) (.inr rfl);have k3:=k a.2 b.1 (.inr rfl) (.inl rfl);have k4:=k a.2 b.2 (.inr rfl) (.inr rfl);have hi:=yf hy (oO ib h0);have d:∀u v:Rat,u / v=u*(1 / v):=fun u v=>by grind
 rw[d (aF a.1) (aF b.1)] at k1;rw[d (aF a.1) (aF b.2)] at k2;rw[d (aF a.2) (aF b.1)] at k3;rw[d (aF a.2) (aF b.2)] at k4;rw[d x y];exact⟨mT hx hi k2.1 k1.1 k4.1 k3.1,pU hx hi k2.2 k1.2 k4.2 k3.2⟩
theorem zC:hZ H9 muX suX quX pvX where
 mu:=fun a b c x y h hx hy=>⟨Ad h,Gl h hx.2 hy.2⟩
 su:=fun a b c x y h hx hy=>⟨E4 hx.1 hy.1 h,GH hx.1 hy.1 h hx.2 hy.2⟩
 qo:=fun a b c x y h0 h hx hy=>by
  have h0':¬cn b 0:=fun hc=>h0 ⟨hy.1,hc⟩
  exact⟨((gC (f:=quoN) (a:=a) (b:=b) (g:=fun i j=>aF i / aF j) (mv hx.1 hy.1 h0')).1 c h).1,Gu hx.1 hy.1 h0' h hx.2 hy.2⟩
 pv:=fun M n k a h=>by
  rcases nP _ _ _ _ h with h|⟨h1,h2,h3⟩
  ·cases h
  ·refine⟨h1,by omega,fun hc=>h3 ?_⟩;unfold lsW;rw[if_pos ((j9 _).2 hc.2)]
structure NN (d:Nat):Prop where
 le:d≤9218868437227405312
theorem NN.kw {d:Nat} (h:NN d):kw d=d:=by
 have:=h.le;unfold Go.Proofs.YtonhpkigoplmaaaGreatDoor.kw sg;rw[decide_eq_false (by omega),if_neg Bool.false_ne_true];omega
theorem NN.fmin {x y:Nat} (hx:NN x) (hy:NN y):Go.Proofs.YtonhpkigoplmaaaGreatDoor.fmin x y=min x y∧NN (Go.Proofs.YtonhpkigoplmaaaGreatDoor.fmin x y):=by
 have e:Go.Proofs.YtonhpkigoplmaaaGreatDoor.fmin x y=min x y:=by
  unfold Go.Proofs.YtonhpkigoplmaaaGreatDoor.fmin;rw[hx.kw,hy.kw];split<;>omega
 refine⟨e,?_⟩;rw[e];have:=hx.le;have:=hy.le;exact⟨by omega⟩
theorem NN.fmax {x y:Nat} (hx:NN x) (hy:NN y):Go.Proofs.YtonhpkigoplmaaaGreatDoor.fmax x y=max x y∧NN (Go.Proofs.YtonhpkigoplmaaaGreatDoor.fmax x y):=by
 have e:Go.Proofs.YtonhpkigoplmaaaGreatDoor.fmax x y=max x y:=by
  unfold Go.Proofs.YtonhpkigoplmaaaGreatDoor.fmax;rw[hx.kw,hy.kw];split<;>omega
 refine⟨e,?_⟩;rw[e];have:=hx.le;have:=hy.le;exact⟨by omega⟩
theorem NN.fr {d:Nat} (h:NN d):FR d (aW d):=⟨by have:=h.le;omega,by have:=h.le;omega,by have:=h.le;omega,rfl⟩
def PlA (d:Nat):Prop:=d=0∨553942754166571008≤d∧d≤8660422083433463808
theorem PlA.nn {d:Nat} (h:PlA d):NN d:=⟨by unfold PlA at h;omega⟩
theorem dT {l:Nat} (hl:l<18446744073709551616) (h:au l=some (plT l)):PlA (absW l)∧aF (absW l)=ab (aF l):=by
 unfold absW PlA;have hp:(au l).isSome=true:=by rw[h];rfl
 by_cases h0:l % 9223372036854775808=0
 ·refine⟨.inl h0,?_⟩;rw[h0];have:l=0∨l=9223372036854775808:=by omega
  have z:aF 0=0:=dH rfl;have z2:aF 9223372036854775808=0:=dH rfl;rcases this with rfl|rfl
  ·rw[z,fO]
  ·rw[z,z2,fO]
 ·have hb:553942754166571008≤l % 9223372036854775808∧l % 9223372036854775808≤8660422083433463808:=by
   unfold au at hp;split at hp
   ·omega
   ·split at hp
    ·cases hp
    ·omega
  refine⟨.inr hb,?_⟩
  have e1:plT (l % 9223372036854775808)=(false,l % 9223372036854775808 % 4503599627370496+4503599627370496,((l % 9223372036854775808 / 4503599627370496:Nat):Int)-1075):=by
   have:=lM false hb.1 hb.2;rw[show wd false (l % 9223372036854775808)=l % 9223372036854775808 by unfold wd;simp] at this;unfold plT;rw[this];rfl
  have e2:plT l=(decide (9223372036854775808≤l),l % 9223372036854775808 % 4503599627370496+4503599627370496,((l % 9223372036854775808 / 4503599627370496:Nat):Int)-1075):=by
   have:=lM (decide (9223372036854775808≤l)) hb.1 hb.2;rw[gZ hl] at this;unfold plT;rw[this];rfl
  unfold aF;rw[e1,e2];unfold aI sg;simp only;have hp2:=Rat.mul_pos (show(0:Rat)<((l % 9223372036854775808 % 4503599627370496+4503599627370496:Nat):Rat) from Rat.natCast_pos.2 (by omega)) (d9 (((l % 9223372036854775808 / 4503599627370496:Nat):Int)-1075));by_cases hd:9223372036854775808≤l
  ·rw[decide_eq_true hd];simp only[Bool.false_eq_true,if_false,if_true];rw[Rat.intCast_neg,Rat.intCast_natCast];rcases bw (-((l % 9223372036854775808 % 4503599627370496+4503599627370496:Nat):Rat)*pw (((l % 9223372036854775808 / 4503599627370496:Nat):Int)-1075)) with⟨_,e⟩|⟨_,e⟩<;>grind
  ·rw[decide_eq_false hd];simp only[Bool.false_eq_true,if_false];rw[Rat.intCast_natCast];rcases bw (((l % 9223372036854775808 % 4503599627370496+4503599627370496:Nat):Rat)*pw (((l % 9223372036854775808 / 4503599627370496:Nat):Int)-1075)) with⟨_,e⟩|⟨_,e⟩<;>grind
structure FSt (w W:World) (g:Nat) (a:Array Value):Prop where
 k0:W.heap[g]?=some (.cells a 92 (0,0))
 hg:w.heap.size≤g
 hb:Below w.heap.size w W
theorem FSt.below {w W W':World} {g:Nat} {a:Array Value} (m:FSt w W g a) (hb:Below W.heap.size W W'):FSt w W' g a:=⟨aa m.k0 hb,m.hg,m.hb.trans (hb.mono m.hb.size)⟩
theorem FSt.drew {w W:World} {g:Nat} {a:Array Value} (m:FSt w W g a):FSt w W.drew g a:=⟨m.k0,m.hg,m.hb.drew⟩
theorem FSt.cells {w W:World} {g:Nat} {x y z:Value} (m:FSt w W g #[x,y,z]):W.cell? ⟨g,0,none⟩=some x∧W.cell? ⟨g,1,none⟩=some y∧W.cell? ⟨g,2,none⟩=some z:=by
 obtain⟨a,b,c,-,-,-⟩:=aB m.k0;exact⟨a,b,c⟩
theorem FSt.set {w W:World} {g:Nat} {x y z x' y' z':Value} (m:FSt w W g #[x',y',z']):FSt w (((W.setCell ⟨g,0,none⟩ x).setCell ⟨g,1,none⟩ y).setCell ⟨g,2,none⟩ z) g #[x,y,z]:=
 ⟨aY m.k0,m.hg,((m.hb.setCell (by exact m.hg) _).setCell (by exact m.hg) _).setCell (by exact m.hg) _⟩
theorem jC {x y:ap} (sx:Sm x) (sy:Sm y) (W:World) (po qo:Option Addr) (lp cp lq cq:Nat) (h0:lp=(digits x.2.1).length) (n0:aq W (.slice po lp cp) x.2.1) (h1:lq=(digits y.2.1).length) (n1:aq W (.slice qo lq cq) y.2.1):
  aw 58 #[.agg #[.bool x.1,.slice po lp cp,iV x.2.2],.agg #[.bool y.1,.slice qo lq cq,iV y.2.2]] W (.bool (lessT x y)):=by
 have a:=sx.len;have b:=sy.len;have c:=sx.l;have d:=sx.u;have e:=sy.l;have f:=sy.u;exact kR _ _ x.1 y.1 x.2.1 y.2.1 x.2.2 y.2.2 W ⟨po,lp,cp,rfl,h0,n0⟩ ⟨qo,lq,cq,rfl,h1,n1⟩ (by omega) (by omega) (by omega) (by omega) (by omega) (by omega)
theorem EK (W:World):ax 114 #[iV 1] W fun e w'=>∃o l c,e= .returned (.slice o l c)∧l=(digits 1).length∧aq w' (.slice o l c) 1∧Below W.heap.size W w':=by
 refine(dG 1 W (by decide)).mono ?_;rintro e w' ⟨v,rfl,hn,hb⟩;obtain⟨o,c,rfl⟩:=hn.slice;exact⟨o,_,c,rfl,rfl,hn,hb⟩
theorem y9 (k:Int):aI (false,1,k)=pw k:=by
 unfold aI sg;simp only[Bool.false_eq_true,if_false]
 show((1:Int):Rat)*pw k=pw k
 rw[show((1:Int):Rat)=1 by rfl,Rat.one_mul]
theorem A7 {x a:ap} (h:aI a=ab (aI x)) (n0:sgnI x.1 x.2.1≠0):fairT x=(!lessT a (false,1,-30) &&!lessT (false,1,30) a):=by
 have h1:=jM a (false,1,-30);have h2:=jM (false,1,30) a;rw[y9,h] at h1 h2
 have hv:aI x≠0:=fun hc=>by
  have:=(dY x).1.2 (by grind);have:=(dY x).2.2 (by grind);omega
 unfold fairT;rw[decide_eq_false hv,Bool.false_or]
 congr 1
 ·rw[Bool.eq_iff_iff,decide_eq_true_eq,Bool.not_eq_true',←Bool.not_eq_true,h1];grind
 ·rw[Bool.eq_iff_iff,decide_eq_true_eq,Bool.not_eq_true',←Bool.not_eq_true,h2];grind
theorem Dc {x:ap} (n0:sgnI x.1 x.2.1=0):fairT x=true:=by
 have:aI x=0:=by
  have a:=(dY x).1.1 (by omega);have b:=(dY x).2.1 (by omega);grind
 unfold fairT;rw[decide_eq_true this,Bool.true_or]
theorem xE (x:ap) (o:Option Addr) (l c:Nat) (w:World) (sx:Sm x) (hl:l=(digits x.2.1).length) (hn:aq w (.slice o l c) x.2.1):
  aw 168 #[.agg #[.bool x.1,.slice o l c,iV x.2.2]] w (.bool (fairT x)):=by
 have HS:Hid (∀W,Below w.heap.size w W→aw 69 #[.agg #[.bool x.1,.slice o l c,iV x.2.2]] W (iV (sgnI x.1 x.2.1))):=fun W hW=>fw _ _ _ _ W ⟨o,l,c,rfl,hl,hn.below hW ae⟩
 have HN:Hid (∀W,Below w.heap.size w W→ax 61 #[.agg #[.bool x.1,.slice o l c,iV x.2.2]] W fun e w'=>∃o' l' c',e= .returned (.agg #[.bool (bC x).1,.slice o' l' c',iV (bC x).2.2])∧l'=(digits x.2.1).length∧aq w' (.slice o' l' c') x.2.1∧Below W.heap.size W w'):=fun W hW=>eM x W o l c hl (hn.below hW ae)
 have H1:Hid (∀W,ax 114 #[iV 1] W fun e w'=>∃o l c,e= .returned (.slice o l c)∧l=(digits 1).length∧aq w' (.slice o l c) 1∧Below W.heap.size W w'):=EK
 have hv:Hid (aI (if sgnI x.1 x.2.1<0 then bC x else x)=ab (aI x)):=by
  show _=_
  split
  ·rename_i h
   rw[pJ];have:=(dY x).2;rcases bw (aI x) with⟨a,b⟩|⟨a,b⟩
   ·have:=this.2 a;omega
   ·exact b.symm
  ·rename_i h
   have:=(dY x).2.1 (by omega);rcases bw (aI x) with⟨a,b⟩|⟨a,b⟩
   ·exact b.symm
   ·grind
 have SB:Hid (Sm (if sgnI x.1 x.2.1<0 then bC x else x)):=by
  show Sm _
  split
  ·exact⟨sx.b,sx.l,sx.u⟩
  ·exact sx
 have HF:Hid (∀a,aI a=ab (aI x)→(decide (sgnI x.1 x.2.1=0)||(!lessT a (false,1,-30) &&!lessT (false,1,30) a))=fairT x):=by
  intro a h;by_cases h0:sgnI x.1 x.2.1=0
  ·rw[decide_eq_true h0,Bool.true_or,Dc h0]
  ·rw[decide_eq_false h0,Bool.false_or,A7 h h0]
 have HX:=hid hn;have HL:=hid hl;clear hn hl sx;generalize fairT x=RES at*;go_enter Tryz.func168,Tryz.ntmps168;go_wp2_with fail;have m0:Hid (FSt w (w.alloc (.cells #[.bool x.1,.slice o l c,iV x.2.2] 92)) w.heap.size #[.bool x.1,.slice o l c,iV x.2.2]):=⟨af w _,Nat.le_refl _,aK.alloc ae _⟩;generalize(w.alloc (.cells #[.bool x.1,.slice o l c,iV x.2.2] 92))=W1 at*;refine (HS.out _ m0.out.hb).mono ?_;rintro e w1 ⟨rfl,hb1⟩;have m1:=hid (m0.out.below hb1);have NX:Hid (aq w1 (.slice o l c) x.2.1):=HX.out.below m1.out.hb ae;clear hb1 m0 HS HX;obtain⟨x0,x1,x2⟩:=m1.out.cells;obtain⟨-,-,-,f0,f1,f2⟩:=aB m1.out.k0;have hlt:=ag m1.out.k0;have VV:=hid hv.out;have SV:=hid SB.out;clear hv SB
 go_upto_if 9 with fail
 go_cut [3] (fun s3 wc=>s3=iV (sgnI x.1 x.2.1)∧∃(a:ap) (o':Option Addr) (l' c':Nat),FSt w wc w.heap.size #[.bool a.1,.slice o' l' c',iV a.2.2]∧l'=(digits a.2.1).length∧aq wc (.slice o' l' c') a.2.1∧aI a=ab (aI x)∧Sm a)
 case first=>
  by_cases hs:sgnI x.1 x.2.1<0
  ·have g1:decide (sgnI x.1 x.2.1<0)=true:=decide_eq_true hs;have V:=hid VV.out;have T:=hid SV.out;rw[if_pos hs] at V T;clear VV SV;go_wp2_with fail;refine (HN.out _ m1.out.hb).mono ?_;rintro e w2 ⟨o',l',c',rfl,hl',hn',hb2⟩;have m2:=hid (m1.out.below hb2);have N2:=hid hn';have L2:=hid hl';clear hb2 m1 hn' hl' x0 x1 x2 f0 f1 f2 hlt HN;obtain⟨x0,x1,x2⟩:=m2.out.cells;obtain⟨-,-,-,f0,f1,f2⟩:=aB m2.out.k0;have hlt:=ag m2.out.k0;go_wp2_with fail;go_meet;refine⟨rfl,bC x,o',l',c',m2.out.set,L2.out,?_,V.out,T.out⟩
   exact N2.out.keeps fun g cur hh=>by
    have:g≠w.heap.size:=fun e=>by
     subst e;rw[m2.out.k0] at hh
     cases hh
    exact aD hh this
  ·have g1:decide (sgnI x.1 x.2.1<0)=false:=decide_eq_false hs;have V:=hid VV.out;have T:=hid SV.out;rw[if_neg hs] at V T;clear VV SV;go_wp2_with fail;go_meet;exact⟨rfl,x,o,l,c,m1.out,HL.out,NX.out,V.out,T.out⟩
 case rest=>
  obtain⟨rfl,a,ao,al,ac,hm,hla,hna,hva,hsa⟩:=hcut;have m2:=hid hm;have LA:=hid hla;have NA:=hid hna;have FA:=hid (HF.out a hva);have LS1:Hid (∀W bo lb bc,aq W (.slice ao al ac) a.2.1→lb=(digits 1).length→aq W (.slice bo lb bc) 1→aw 58 #[.agg #[.bool a.1,.slice ao al ac,iV a.2.2],.agg #[.bool false,.slice bo lb bc,iV (-30)]] W (.bool (lessT a (false,1,-30)))):=fun W bo lb bc h1 h2 h3=>jC hsa (y:=(false,1,-30)) ⟨by decide,by decide,by decide⟩ W _ _ _ _ _ _ hla h1 h2 h3
  have LS2:Hid (∀W bo lb bc,aq W (.slice ao al ac) a.2.1→lb=(digits 1).length→aq W (.slice bo lb bc) 1→aw 58 #[.agg #[.bool false,.slice bo lb bc,iV 30],.agg #[.bool a.1,.slice ao al ac,iV a.2.2]] W (.bool (lessT (false,1,30) a))):=fun W bo lb bc h1 h2 h3=>jC (x:=(false,1,30)) ⟨by decide,by decide,by decide⟩ hsa W _ _ _ _ _ _ h2 h3 hla h1
  clear hm hla hna hva hsa m1 NX x0 x1 x2 f0 f1 f2 hlt HN HF VV SV HL;generalize lessT a (false,1,-30)=r1 at*;generalize lessT (false,1,30) a=r2 at*;generalize sgnI x.1 x.2.1=sg0 at*;go_wp2_with fail
  go_cut [3,4] (fun s3 s4 wd=>s3=iV sg0∧s4= .bool r1∧FSt w wd w.heap.size #[.bool a.1,.slice ao al ac,iV a.2.2]∧aq wd (.slice ao al ac) a.2.1)
  case first=>
   have iN:=hid m2.out.drew;have NN:Hid (aq wc.drew (.slice ao al ac) a.2.1):=NA.out;obtain⟨x0,x1,x2⟩:=m2.out.cells
   go_region_held3 (fun W=>W.cell? ⟨w.heap.size,0,none⟩=some (.bool a.1)∧W.cell? ⟨w.heap.size,1,none⟩=some (.slice ao al ac)∧W.cell? ⟨w.heap.size,2,none⟩=some (.int .i64 a.2.2)) (first|with_reducible exact iN.out.cells)
    (first
      |(go_at_call 114;with_reducible (refine (H1.out _).mono ?_);rintro e v0 ⟨bo,lb,bc,rfl,hlb,hnb,hbk⟩
        have NB:=hid hnb;have LB:=hid hlb;have NN:=hid (NN.out.below hbk ae);have iN:=hid (iN.out.below hbk);clear hbk hnb hlb)
      |(go_at_call 58;with_reducible (refine (LS1.out _ _ _ _ ?_ ?_ ?_).mono ?_);(with_reducible exact NN.out);(with_reducible exact LB.out);(with_reducible exact NB.out);rintro e v1 ⟨rfl,hbk⟩
        have NN:=hid (NN.out.below hbk ae);have iN:=hid (iN.out.below hbk);clear hbk))
   all_goals(go_wp2_with fail;go_meet;exact⟨rfl,rfl,iN.out,NN.out⟩)
  case rest=>
   obtain⟨rfl,rfl,hm,hna⟩:=hcut;have m3:=hid hm;have N3:=hid hna;clear hm hna m2 NA LS1;go_wp2_with fail
   go_cut [3,4,5] (fun s3 s4 s5 we=>s3=iV sg0∧s4= .bool r1∧s5= .bool r2∧Below w.heap.size w we)
   case first=>
    have iN:=hid m3.out.drew;have NN:Hid (aq wc.drew (.slice ao al ac) a.2.1):=N3.out;obtain⟨x0,x1,x2⟩:=m3.out.cells
    go_region_held3 (fun W=>W.cell? ⟨w.heap.size,0,none⟩=some (.bool a.1)∧W.cell? ⟨w.heap.size,1,none⟩=some (.slice ao al ac)∧W.cell? ⟨w.heap.size,2,none⟩=some (.int .i64 a.2.2)) (first|with_reducible exact iN.out.cells)
     (first
       |(go_at_call 114;with_reducible (refine (H1.out _).mono ?_);rintro e v0 ⟨bo,lb,bc,rfl,hlb,hnb,hbk⟩
         have NB:=hid hnb;have LB:=hid hlb;have NN:=hid (NN.out.below hbk ae);have iN:=hid (iN.out.below hbk);clear hbk hnb hlb)
       |(go_at_call 58;with_reducible (refine (LS2.out _ _ _ _ ?_ ?_ ?_).mono ?_);(with_reducible exact NN.out);(with_reducible exact LB.out);(with_reducible exact NB.out);rintro e v1 ⟨rfl,hbk⟩
         have NN:=hid (NN.out.below hbk ae);have iN:=hid (iN.out.below hbk);clear hbk))
    all_goals(go_wp2_with fail;go_meet;exact⟨rfl,rfl,rfl,iN.out.hb⟩)
   case rest=>
    obtain⟨rfl,rfl,rfl,hbe⟩:=hcut;have HBE:=hid hbe;clear hbe m3 N3 LS2 H1;by_cases h0:sg0=0
    ·subst h0
     have E:Hid (true=RES):=by
      show _=_
      rw[←FA.out];rfl
     clear FA;go_wp2
     go_ret
     rw[←E.out];exact⟨rfl,HBE.out⟩
    ·have g1:(sg0==0)=false:=by rw[beq_eq_false_iff_ne];exact h0
     have E:Hid ((!r1 &&!r2)=RES):=by
      show _=_
      rw[←FA.out,decide_eq_false h0,Bool.false_or]
     clear FA h0
     cases r1<;>cases r2<;>(go_wp2;go_ret;rw[←E.out];exact⟨rfl,HBE.out⟩)
def entQ (Q:Nat→Nat→ap) (B:Nat→ap) (col:Int) (i k:Nat):ap:=if(k:Int)=col then B i else Q i k
def sR (E:Nat→Nat→ap) (j i k:Nat):ap:=E (i+1) (if k<j then k else k+1)
def MM:Nat→Nat
 |0=>1
 |n+1=>MM n+953+(n+1)
structure Al (n:Nat) (E:Nat→Nat→ap) (q:ap):Prop where
 val:aI q=detR n (fun i k=>aI (E i k))
 bq:Bq (953*n) (MM n) q
structure nr (n:Nat) (E:Nat→Nat→ap) (j:Nat) (q:ap):Prop where
 val:aI q=sumR j (fun k=>(if k % 2=1 then -1 else 1)*(aI (E 0 k)*detR n (fun i x=>aI (E (i+1) (if x<k then x else x+1)))))
 bq:Bq (953*(n+1)) (MM n+953+j) q
theorem nr.zero (n:Nat) (E:Nat→Nat→ap):nr n E 0 (false,0,0):=⟨dH rfl,Bq.zero _ _⟩
theorem Fa {n:Nat} (h:n≤4):MM n≤3823:=by
 have:n=0∨n=1∨n=2∨n=3∨n=4:=by omega
 rcases this with rfl|rfl|rfl|rfl|rfl<;>decide
theorem nr.done {n:Nat} {E:Nat→Nat→ap} {q:ap} (h:nr n E (n+1) q):Al (n+1) E q:=⟨h.val,h.bq⟩
theorem nr.step {n:Nat} {E:Nat→Nat→ap} {j:Nat} {t d p:ap} (ht:nr n E j t) (hd:Al n (sR E j) d) (hb:Bq 953 953 (E 0 j)) (hp:p=if j % 2=1 then bC (aT (E 0 j) d) else aT (E 0 j) d):nr n E (j+1) (sumT t p):=by
 have b1:Bq (953*(n+1)) (MM n+953) p:=by
  have h:=(hb.prod hd.bq).mono (E':=953*(n+1)) (M':=MM n+953) (by omega) (by omega);rw[hp];split
  ·exact h.neg
  ·exact h
 refine⟨?_,(ht.bq.sum (b1.mono ae (by omega))).mono ae (by omega)⟩;rw[mL,ht.val]
 show _=sumR j _+(if j % 2=1 then -1 else 1)*(aI (E 0 j)*detR n (fun i x=>aI (E (i+1) (if x<j then x else x+1))))
 congr 1
 have e:detR n (fun i x=>aI (E (i+1) (if x<j then x else x+1)))=aI d:=hd.val.symm;rw[e,hp];split
 ·rw[pJ,iU];grind
 ·rw[iU];grind
theorem zK:(Tryz.prog.info? 92).map (fun i=>(i.zero,i.size,i.bytes))=some (some (.agg #[.bool false,.slice none 0 0,iV 0]),3,40):=by kernel_rfl
theorem xj:(Tryz.prog.info? 103).map (fun i=>(i.zero,i.size,i.bytes))=some (some (.slice none 0 0),1,24):=by kernel_rfl
theorem md {W:World} {a b c:Value} {t:TypeId}:∀j u,([a,b,c]:List Value)[j]?=some u→(W.alloc (.cells #[a,b,c] t)).cell? ((Addr.mk W.heap.size 0 none).add j)=some u:=by
 intro j u hj;have hk:=af W (.cells #[a,b,c] t);obtain⟨c1,c2,c3,-,-,-⟩:=aB hk
 match j,hj with
 |0,hj=>simp at hj;subst hj;exact c1
 |1,hj=>simp at hj;subst hj;exact c2
 |2,hj=>simp at hj;subst hj;exact c3
theorem NBl.push {b:Nat} {W W0 W1:World} {v v':Value} {n:Nat} {q:Nat→ap} {u:Nat→Value} {o:Option Addr} {l c:Nat} (h:NBl b W v n q u) (hl:l=(digits (q n).2.1).length) (hn:aq W (.slice o l c) (q n).2.1) (ho:W1.ownsRow b 92 3 v' (n+1) (nvs q u n++[.bool (q n).1,.slice o l c,iV (q n).2.2])) (hg:W0.grownBy W1 v.ownBlock) (h0:Below W.heap.size W W0):NBl b W1 v' (n+1) q (fun i=>if i=n then .slice o l c else u i):=by
 have hk:∀m y,aq W y m→aq W1 y m:=by
  intro m y hy;have hy0:=hy.below h0 ae;refine hy0.keeps fun g cur hh=>?_
  rw[hg.block g (ag hh) ?_]
  ·exact hh
  ·intro hu;obtain⟨-,⟨rfl,-⟩|⟨g',c,cur',rfl,-,k1,-⟩⟩:=h.own
   ·simp[Value.ownBlock] at hu
   ·simp[Value.ownBlock] at hu;subst hu;rw[aa k1 h0] at hh
    cases hh
 refine⟨?_,fun j hj=>?_⟩
 ·rw[Eb,if_pos rfl,oX (q:=q) (q':=q) (u:=fun i=>if i=n then .slice o l c else u i) (u':=u) (fun _ _=>rfl) (fun j hj=>by rw[if_neg (by omega)])];exact ho
 ·by_cases hjn:j=n
  ·subst hjn;rw[if_pos rfl];exact⟨o,l,c,rfl,hl,hk _ _ hn⟩
  ·rw[if_neg hjn];obtain⟨o',l',c',e1,e2,e3⟩:=h.nat j (by omega);exact⟨o',l',c',e1,e2,hk _ _ e3⟩
theorem bM {W:World} {g:Nat} {a b c:Value} {cur:Array Value} {v:Value} {n:Nat} (h:aq W v n) (hg:W.heap[g]?=some (.cells cur 92 (0,0))):aq (((W.setCell ⟨g,0,none⟩ a).setCell ⟨g,1,none⟩ b).setCell ⟨g,2,none⟩ c) v n:=
 h.keeps fun g' cur' hh=>by
  have:g'≠g:=fun e=>by
   subst e;rw[hg] at hh
   cases hh
  exact aD hh this
def lU (x:ap):ap:=(x.1,x.2.1,x.2.2-1)
theorem DX (x:ap):aI (lU x)*2=aI x:=by
 unfold lU aI;simp only;have h:=bT (x.2.2-1) 1;rw[show x.2.2-1+1=x.2.2 by omega,oF] at h;rw[h];grind
structure Cho (lo hi:Nat) (q:ap):Prop where
 bq:Bq 953 953 q
 l:aF lo≤aI q
 u:aI q≤aF hi
theorem Gh {lo hi:Nat} (i:Iv lo hi):Cho lo hi (plT lo):=⟨(ct i.p1).bq.mono (by omega) (by omega),by unfold aF;grind,i.vle⟩
theorem GJ {lo hi:Nat} (i:Iv lo hi):Cho lo hi (plT hi):=⟨(ct i.p2).bq.mono (by omega) (by omega),i.vle,by unfold aF;grind⟩
theorem F0 {lo hi:Nat} (i:Iv lo hi):Cho lo hi (lU (sumT (plT lo) (plT hi))):=by
 have h:=(ct i.p1).bq.sum (ct i.p2).bq;have v:=DX (sumT (plT lo) (plT hi));rw[mL] at v;have le:=i.vle;unfold aF at le;refine⟨⟨?_,?_,?_⟩,?_,?_⟩
 ·have:=h.l;unfold lU;simp only;omega
 ·have:=h.u;unfold lU;simp only;omega
 ·have:=h.t;unfold lU;simp only;omega
 ·unfold aF;grind
 ·unfold aF;grind
theorem qZ (lo hi:Nat) (i:Iv lo hi) (pick:Int) (w:World):
  ax 170 #[gU lo hi,iV pick] w fun e w'=>∃(q:ap) (o:Option Addr) (l c:Nat),e= .returned (.agg #[.bool q.1,.slice o l c,iV q.2.2])∧l=(digits q.2.1).length∧aq w' (.slice o l c) q.2.1∧Cho lo hi q∧Below w.heap.size w w':=by
 have HM:Hid (dF #[gU lo hi] (plT lo) (plT hi)):=by
  have:=du lo hi i.lt1 i.lt2;rw[dm i] at this;exact this
 have C1:=hid (Gh i);have C2:=hid (GJ i);have C3:=hid (F0 i);have P1:=hid (ct i.p1);have P2:=hid (ct i.p2);clear i;generalize plT lo=x at*;generalize plT hi=y at*;go_enter Tryz.func170,Tryz.ntmps170;go_wp2_with fail;have k4:=af (w.alloc (.cells #[nV lo,nV hi] 28)) (.cells #[.bool false,.slice none 0 0,iV 0] 92);simp only[World.size_alloc] at k4;have hW:Below w.heap.size w ((w.alloc (.cells #[nV lo,nV hi] 28)).alloc (.cells #[.bool false,.slice none 0 0,iV 0] 92)):=aJ.alloc (by simp) _;generalize((w.alloc (.cells #[nV lo,nV hi] 28)).alloc (.cells #[.bool false,.slice none 0 0,iV 0] 92))=W2 at*;refine (HM.out _).mono ?_;rintro e w1 ⟨ao,la,ca,bo,lb,cb,rfl,hla,hlb,hna,hnb,hbk⟩;have K4:=hid (aa k4 hbk);have HB:=hid (hW.trans (hbk.mono hW.size));have LA:=hid hla;have LB:=hid hlb;have NA:=hid hna;have NB:=hid hnb;clear hla hlb hna hnb hbk k4 hW HM;obtain⟨z0,z1,z2,f0,f1,f2⟩:=aB K4.out;have hlt:=ag K4.out
 have NIV:Hid (∀(u:ap) (o:Option Addr) (l c:Nat) (W:World) (X:Obj),aq W (.slice o l c) u.2.1→W.heap[w.heap.size+1]?=some (.cells #[.bool false,.slice none 0 0,iV 0] 92 (0,0))→Below w.heap.size w W→aq ((((W.setCell ⟨w.heap.size+1,0,none⟩ (.bool u.1)).setCell ⟨w.heap.size+1,1,none⟩ (.slice o l c)).setCell ⟨w.heap.size+1,2,none⟩ (iV u.2.2)).alloc X) (.slice o l c) u.2.1∧Below w.heap.size w ((((W.setCell ⟨w.heap.size+1,0,none⟩ (.bool u.1)).setCell ⟨w.heap.size+1,1,none⟩ (.slice o l c)).setCell ⟨w.heap.size+1,2,none⟩ (iV u.2.2)).alloc X)):=by
  intro u o l c W X hN hK hB;have h3:Below w.heap.size w (((W.setCell ⟨w.heap.size+1,0,none⟩ (.bool u.1)).setCell ⟨w.heap.size+1,1,none⟩ (.slice o l c)).setCell ⟨w.heap.size+1,2,none⟩ (iV u.2.2)):=((hB.setCell (Nat.le_succ _) _).setCell (Nat.le_succ _) _).setCell (Nat.le_succ _) _;exact⟨(bM hN hK).below aJ ae,h3.alloc h3.size _⟩
 cases hp:(bits BinOp.and IntKind.i64 pick 3==0) with
 |true=>
  go_wp2;obtain⟨r0,r1,r2,-,-,-⟩:=aB (ai (aY (a:= .bool x.1) (b:= .slice ao la ca) (c:=iV x.2.2) K4.out) (.cells #[.bool x.1,.slice ao la ca,iV x.2.2,.bool y.1,.slice bo lb cb,iV y.2.2] 98));refine bodyPost_ret (v:= .agg #[.bool x.1,.slice ao la ca,iV x.2.2]) (by simp[results,Tryz.results170,go_sem,r0,r1,r2]) rfl ?_;obtain⟨a,b⟩:=NIV.out x ao la ca w1 (.cells #[.bool x.1,.slice ao la ca,iV x.2.2,.bool y.1,.slice bo lb cb,iV y.2.2] 98) NA.out K4.out HB.out;exact⟨x,ao,la,ca,rfl,LA.out,a,C1.out,b⟩
 |false=>
  cases hq:(bits BinOp.and IntKind.i64 pick 3==1) with
  |true=>
   go_wp2;obtain⟨r0,r1,r2,-,-,-⟩:=aB (ai (aY (a:= .bool y.1) (b:= .slice bo lb cb) (c:=iV y.2.2) K4.out) (.cells #[.bool x.1,.slice ao la ca,iV x.2.2,.bool y.1,.slice bo lb cb,iV y.2.2] 98));refine bodyPost_ret (v:= .agg #[.bool y.1,.slice bo lb cb,iV y.2.2]) (by simp[results,Tryz.results170,go_sem,r0,r1,r2]) rfl ?_;obtain⟨a,b⟩:=NIV.out y bo lb cb w1 (.cells #[.bool x.1,.slice ao la ca,iV x.2.2,.bool y.1,.slice bo lb cb,iV y.2.2] 98) NB.out K4.out HB.out;exact⟨y,bo,lb,cb,rfl,LB.out,a,C2.out,b⟩
  |false=>
   have HSM:Hid (∀W,Below w1.heap.size w1 W→ax 65 #[.agg #[.bool x.1,.slice ao la ca,iV x.2.2],.agg #[.bool y.1,.slice bo lb cb,iV y.2.2]] W fun ev w''=>∃vo vl vc,ev= .returned (.agg #[.bool (sumT x y).1,.slice vo vl vc,iV (sumT x y).2.2])∧vl=(digits (sumT x y).2.1).length∧aq w'' (.slice vo vl vc) (sumT x y).2.1∧Below W.heap.size W w''):=fun W hW=>kH P1.out.sm P2.out.sm W _ _ _ _ _ _ LA.out (NA.out.below hW ae) LB.out (NB.out.below hW ae)
   have hsb:Hid (Sm (sumT x y)):=P1.out.sum P2.out;go_wp2_with fail;have hba:Below w1.heap.size w1 (w1.alloc (.cells #[.bool x.1,.slice ao la ca,iV x.2.2,.bool y.1,.slice bo lb cb,iV y.2.2] 98)):=aK.alloc ae _;generalize(w1.alloc (.cells #[.bool x.1,.slice ao la ca,iV x.2.2,.bool y.1,.slice bo lb cb,iV y.2.2] 98))=W3 at*;refine (HSM.out _ hba).mono ?_;rintro e w2 ⟨vo,vl,vc,rfl,hl,hn,hbk⟩;have K4:=hid (aa (aa K4.out hba) hbk);have HB:=hid ((HB.out.trans (hba.mono HB.out.size)).trans (hbk.mono (HB.out.trans (hba.mono HB.out.size)).size));have LS:=hid hl;have NS:=hid hn;have q1:=hsb.out.l;have q2:=hsb.out.u;clear hl hn hbk hba HSM z0 z1 z2 f0 f1 f2 hlt hsb;obtain⟨z0,z1,z2,f0,f1,f2⟩:=aB K4.out;have hlt:=ag K4.out;generalize sumT x y=s at*;have hw:wrap64 (s.2.2-1)=s.2.2-1:=by unfold wrap64;omega
   go_wp2;obtain⟨r0,r1,r2,-,-,-⟩:=aB (ai (aY (a:= .bool s.1) (b:= .slice vo vl vc) (c:=iV (s.2.2-1)) K4.out) (.cells #[.bool s.1,.slice vo vl vc,iV (s.2.2-1)] 92));refine bodyPost_ret (v:= .agg #[.bool s.1,.slice vo vl vc,iV (s.2.2-1)]) (by simp[results,Tryz.results170,go_sem,r0,r1,r2]) rfl ?_;obtain⟨a,b⟩:=NIV.out (lU s) vo vl vc w2 (.cells #[.bool s.1,.slice vo vl vc,iV (s.2.2-1)] 92) NS.out K4.out HB.out;exact⟨lU s,vo,vl,vc,rfl,LS.out,a,C3.out,b⟩
end
end Go.Proofs.YtonhpkigoplmaaaGreatDoor
