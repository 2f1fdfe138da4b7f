import Derived.Test.YtonhpkigoplmaaaGreatDoorZ21
import Derived.Test.YtonhpkigoplmaaaGreatDoorZ22
import Derived.RangeFuncNested
import Derived.RangeFuncBound
import Derived.RangeFuncCalls
import Derived.RangeFuncLeaves
import Derived.Shelf.Abstract
import Derived.OwnWalkIn
import Derived.TacticsInMore
set_option maxRecDepth 100000
set_option maxHeartbeats 40000000
namespace Go.Proofs.YtonhpkigoplmaaaGreatDoor
section
open Go.RowKit Go.Extern Ieee
theorem zN {x y:ap} (sx:Sm x) (sy:Sm y) (W:World) (u v:Value) (hu:aM W u x.1 x.2.1 x.2.2) (hv:aM W v y.1 y.2.1 y.2.2):aw 58 #[u,v] W (.bool (lessT x y)):=by
 have a:=sx.len;have b:=sy.len;have c:=sx.l;have d:=sx.u;have e:=sy.l;have f:=sy.u;exact kR _ _ _ _ _ _ _ _ W hu hv (by omega) (by omega) (by omega) (by omega) (by omega) (by omega)
theorem Bw (b:Nat):Sm (plT b):=by
 unfold plT
 cases h:au b with
 |none=>exact⟨by show bl 0≤10000;rw[ns];omega,by decide,by decide⟩
 |some x=>exact(ct h).sm
theorem AP {s:Bool} {r:Int} (h:(jp s r).2=false):(jp s r).1=0:=by
 unfold jp at h⊢;by_cases hc:553942754166571008≤r∧r≤8660422083433463808
 ·rw[if_pos hc] at h;cases h
 ·rw[if_neg hc]
theorem GY {l h:Nat} (i:Iv l h):(midT l h).1<18446744073709551616:=by
 obtain⟨a,b⟩:=jO i
 cases hm:(midT l h).2
 ·have:(midT l h).1=0:=by
   unfold midT at hm⊢;by_cases h0:(sumT (plT l) (plT h)).2.1=0
   ·unfold cS;rw[if_pos h0]
   ·rw[qr _ _ h0] at hm⊢;exact AP hm
  rw[this];omega
 ·obtain⟨e,f⟩:=b hm;rw[←e];exact f.lt
theorem zd {ps:Nat→Nat} {n:Nat} {x1 x2:ap} (hr:rightN ps n=0) (hp:∀i,i<n→ps i<18446744073709551616):Iv (bE ps n x1 x2).1 (bE ps n x1 x2).2.1:=by
 obtain⟨h1,h2,h3⟩:=dR hr;have e:bE ps n x1 x2=hornN ps n x1 x2 (n-1):=by unfold bE;rw[if_neg (by omega)]
 rw[e];obtain⟨a,b⟩:=pK (x1:=x1) (x2:=x2) hr hp (n-1) (by omega);by_cases hc:(hornN ps n x1 x2 (n-1)).2.2.1=0
 ·exact a hc
 ·obtain⟨z1,z2⟩:=b hc;rw[z1,z2];exact⟨by omega,by omega,by omega,by omega,rfl,rfl,Int.le_refl _⟩
theorem qf {ps:Nat→Nat} {n d l h:Nat} (hd:jj ps n l h=true):be ps n d l h=[]:=by
 cases d with
 |zero=>exact if_pos hd
 |succ d=>exact if_pos hd
theorem pZ {ps:Nat→Nat} {n d l h:Nat} (hd:¬jj ps n l h=true) (hc:d=0∨¬jF l h=true):be ps n d l h=[(l,h)]:=by
 cases d with
 |zero=>exact if_neg hd
 |succ d=>exact(if_neg hd).trans (if_neg (hc.resolve_left (by omega)))
theorem rA {ps:Nat→Nat} {n d l h:Nat} (hd:¬jj ps n l h=true) (hc:jF l h=true):be ps n (d+1) l h=be ps n d l (midT l h).1++be ps n d (midT l h).1 h:=by
 exact(if_neg hd).trans (if_pos hc)
theorem Do {l h:Nat} (i:Iv l h) (m:Nat×Bool) (hm:m=midT l h) (q:ap) (hq:q=sumT (plT l) (plT h)) (W:World) (vo:Option Addr) (vl vc:Nat) (hl:vl=(digits q.2.1).length) (hv:aq W (.slice vo vl vc) q.2.1):aw 115 #[.agg #[.bool q.1,.slice vo vl vc,iV (q.2.2-1)],iV 0] W (.tuple #[nV m.1,.bool m.2]):=by
 have p1:=ct i.p1;have p2:=ct i.p2;have sq:=p1.sum p2;rw[←hq] at sq;have hm':m=cS q.1 q.2.1 (q.2.2-1):=by rw[hm,hq];unfold midT;rfl
 have:=rT (.agg #[.bool q.1,.slice vo vl vc,iV (q.2.2-1)]) q.1 q.2.1 (q.2.2-1) W ⟨vo,vl,vc,rfl,hl,hv⟩ (by have:=sq.b;omega) (by have:=sq.l;omega) (by have:=sq.u;omega);unfold kP at this;rw[←hm'] at this;exact this
theorem EJ (b:Nat) (hb:b<18446744073709551616) (W:World):ax 57 #[nV b] W fun e w'=>∃ro rl rc k,e= .returned (.tuple #[.agg #[.bool (plT b).1,.slice ro rl rc,iV (plT b).2.2],.bool k])∧rl=(digits (plT b).2.1).length∧aq w' (.slice ro rl rc) (plT b).2.1∧Below W.heap.size W w':=by
 refine(gv b W hb).mono ?_;rintro e w' ⟨x,rfl,⟨ro,rl,rc,rfl,g1,g2⟩,g3⟩;exact⟨ro,rl,rc,_,rfl,g1,g2,g3⟩
theorem p9 {a:Nat} {x:ap} (h1:a<18446744073709551616) (h2:a≠9223372036854775808) (h3:au a=some x) (W:World) (u:Value) (hu:aM W u x.1 x.2.1 x.2.2):aw 115 #[u,iV 0] W (.tuple #[nV a,.bool true]):=by
 have p1:=ct h3;have:=rT u _ _ _ W hu (by have:=p1.sm.b;omega) (by have:=p1.sm.l;omega) (by have:=p1.sm.u;omega);unfold kP at this;rw[xg h1 h2 h3] at this;exact this
theorem EI {al ah:Nat} (iA:Iv al ah):jF al ah=((midT al ah).2 &&(lessT (plT al) (plT (midT al ah).1) && lessT (plT (midT al ah).1) (plT ah))):=by
 obtain⟨a,b⟩:=jO iA;unfold jF;generalize midT al ah=m at a b⊢
 cases hm:m.2
 ·rw[Bool.false_and,Bool.false_and]
 ·obtain⟨e,f⟩:=b hm;rw[hm,e] at a;rw[e] at f;have im:Iv m.1 m.1:=⟨f.lt,f.lt,f.nz,f.nz,cC a,cC a,Int.le_refl _⟩;rw[dX iA.low im,dX im iA]
theorem qT {ps:Nat→Nat} {po:Option Addr} {n pc:Nat} (hr:rightN ps n=0) (hn:n*8≤140737488355328) (d:Nat) (hd:d≤8) (xl xh al ah:Nat) (w:World) (hw:WdV w po n ps) (h1:xl<18446744073709551616) (h2:xh<18446744073709551616) (e1:al=(makeN xl xh).1) (e2:ah=(makeN xl xh).2.1)
  (rec:∀d',d=d'+1→∀(l h:Nat) (W:World),Iv l h→WdV W po n ps→ax 82 #[.slice po n pc,gU l h,iV (d':Int)] W fun e w'=>∃v,e= .returned v∧w'.ownsRow W.heap.size 28 2 v (be ps n d' l h).length (bvs (be ps n d' l h))∧(be ps n d' l h=[]↔v= .slice none 0 0)∧Below W.heap.size W w'):
  ax 82 #[.slice po n pc,gU xl xh,iV (d:Int)] w fun e w'=>∃v,e= .returned v∧w'.ownsRow w.heap.size 28 2 v (be ps n d al ah).length (bvs (be ps n d al ah))∧(be ps n d al ah=[]↔v= .slice none 0 0)∧Below w.heap.size w w':=by
 have iA:Iv al ah:=by rw[e1,e2];exact dZ xl xh h1 h2
 have hM:dF #[gU xl xh] (plT al) (plT ah):=by rw[e1,e2];exact du xl xh h1 h2
 have iV:=zd (x1:=plT al) (x2:=plT ah) hr hw.1;have hE:=fun(W:World) (hb:Below w.heap.size w W)=>ma po n pc ps xl xh W (hw.below hb) hn h1 h2 al ah e1 e2 _ rfl
 have hV:dF #[.agg #[uV ((bE ps n (plT al) (plT ah)).1:Int),uV ((bE ps n (plT al) (plT ah)).2.1:Int)]] (plT (bE ps n (plT al) (plT ah)).1) (plT (bE ps n (plT al) (plT ah)).2.1):=by
  have:=du _ _ iV.lt1 iV.lt2;rw[dm iV] at this;exact this
 by_cases hdr:jj ps n al ah=true
 ·rw[qf hdr];unfold jj at hdr;rw[Bool.and_eq_true,decide_eq_true_eq,Bool.not_eq_true'] at hdr;have hE0:=hE;rw[hdr.1] at hE0;refine(AS po n pc _ xl xh _ _ _ _ _ _ _ w hM hE0 hV hdr.2).mono ?_;rintro e w' ⟨rfl,hb⟩;exact⟨_,rfl,World.ownsRow_nil _ _ _ _,by simp,hb⟩
 ·have hk:(bE ps n (plT al) (plT ah)).2.2.1≠0∨holdsT (plT (bE ps n (plT al) (plT ah)).1) (plT (bE ps n (plT al) (plT ah)).2.1)=true:=by
   by_cases hc:(bE ps n (plT al) (plT ah)).2.2.1=0
   ·right
    cases hh:holdsT (plT (bE ps n (plT al) (plT ah)).1) (plT (bE ps n (plT al) (plT ah)).2.1)
    ·exfalso;apply hdr;unfold jj;rw[hh,decide_eq_true hc];rfl
    ·rfl
   ·exact .inl hc
  have p1:=ct iA.p1;have p2:=ct iA.p2;have sq:=p1.sum p2;have hS:=kH p1.sm p2.sm;have hR:=Do iA _ rfl _ rfl;have hP:=EJ _ (GY iA);have hL1:=zN p1.sm (Bw (midT al ah).1);have hL2:=zN (Bw (midT al ah).1) p2.sm;have hz:=fun(W:World) (v:Value) (h:IvV W v (plT (bE ps n (plT al) (plT ah)).1) (plT (bE ps n (plT al) (plT ah)).2.1))=>kB v _ _ W h
  have hR1:=p9 iA.lt1 iA.z1 iA.p1;have hR2:=p9 iA.lt2 iA.z2 iA.p2;have hcut:=EI iA;by_cases hleaf:d=0∨¬jF al ah=true
  ·rw[pZ hdr hleaf];refine(Ap po n pc (d:Int) xl xh _ _ _ _ _ _ _ _ _ _ _ _ _ _ (midT al ah).1 al ah w hM hE hV hz hk hS sq.l sq.u hR hP hL1 hL2 hR1 hR2 ?_).mono ?_
   ·rcases hleaf with h|h
    ·left;omega
    ·right;rw[hcut] at h
     cases hm:(midT al ah).2
     ·exact .inl rfl
     ·cases hl:lessT (plT al) (plT (midT al ah).1)
      ·exact .inr (.inl rfl)
      ·cases hl2:lessT (plT (midT al ah).1) (plT ah)
       ·exact .inr (.inr rfl)
       ·rw[hm,hl,hl2] at h;exact absurd rfl h
   ·rintro e w' ⟨g,rfl,hg,hh,hb⟩;exact⟨_,rfl,⟨rfl,.inr ⟨g,1,_,rfl,hg,hh,Nat.le_refl _,by unfold maxLen;omega,rfl,rfl⟩⟩,by simp,hb⟩
  ·have hd0:d≠0:=fun h=>hleaf (.inl h)
   have hcc:jF al ah=true:=Decidable.byContradiction fun h=>hleaf (.inr h)
   obtain⟨d',rfl⟩:∃d',d=d'+1:=⟨d-1,by omega⟩;rw[rA hdr hcc];obtain⟨i1,i2,_⟩:=Df iA hcc;have hcc':=hcc;rw[hcut,Bool.and_eq_true,Bool.and_eq_true] at hcc';have q1:=ig ps n d' al (midT al ah).1;have q2:=ig ps n d' (midT al ah).1 ah;have q3:2^d'≤2^7:=Nat.pow_le_pow_right (by decide) (by omega);refine xS po n pc ((d'+1:Nat):Int) xl xh _ _ _ _ _ _ _ _ _ _ _ _ _ _ (midT al ah).1 al ah w hM hE hV hz hk hS sq.l sq.u hR hP hL1 hL2 hR1 hR2 hcc' (by omega) (by omega) _ _ (by omega) ?_ ?_
   ·intro W hb;have:=rec d' rfl al (midT al ah).1 W i1 (hw.below hb);rwa [show((d':Nat):Int)=((d'+1:Nat):Int)-1 by omega] at this
   ·intro W hb;have:=rec d' rfl (midT al ah).1 ah W i2 (hw.below hb);rwa [show((d':Nat):Int)=((d'+1:Nat):Int)-1 by omega] at this
theorem BC {ps:Nat→Nat} {po:Option Addr} {n pc:Nat} (hr:rightN ps n=0) (hn:n*8≤140737488355328):∀(d:Nat),d≤8→∀(xl xh al ah:Nat) (w:World),WdV w po n ps→xl<18446744073709551616→xh<18446744073709551616→al=(makeN xl xh).1→ah=(makeN xl xh).2.1→
  ax 82 #[.slice po n pc,gU xl xh,iV (d:Int)] w fun e w'=>∃v,e= .returned v∧w'.ownsRow w.heap.size 28 2 v (be ps n d al ah).length (bvs (be ps n d al ah))∧(be ps n d al ah=[]↔v= .slice none 0 0)∧Below w.heap.size w w':=by
 intro d
 induction d with
 |zero=>
  intro hd xl xh al ah w hw h1 h2 e1 e2;exact qT hr hn 0 hd xl xh al ah w hw h1 h2 e1 e2 (fun d' h=>by omega)
 |succ d ih=>
  intro hd xl xh al ah w hw h1 h2 e1 e2;refine qT hr hn (d+1) hd xl xh al ah w hw h1 h2 e1 e2 (fun d' h l u W i hW=>?_);obtain rfl:d=d':=by omega
  exact ih (by omega) l u l u W hW i.lt1 i.lt2 (by rw[dm i]) (by rw[dm i])
end
section
open Go.RowKit
def rootsE (ps:Nat→Nat) (n:Nat) (d:Int):Nat:=
 if rightN ps n≠0 then rightN ps n else if d<0∨8<d then 8 else 0
def df (ps:Nat→Nat) (n:Nat) (d:Int) (l h:Nat):List (Nat×Nat):=
 if rootsE ps n d=0 then be ps n d.toNat l h else[]
theorem tn (po:Option Addr) (n pc k:Nat) (d:Int) (xl xh:Nat) (w:World) (hk:k≠0)
  (hR:∀W,Below w.heap.size w W→aw 80 #[.slice po n pc] W (iV (k:Int))):
  aw 37 #[.slice po n pc,gU xl xh,iV d] w (.tuple #[.slice none 0 0,iV (k:Int)]):=by
 have HR:=hid hR;clear hR;go_enter Tryz.func37,Tryz.ntmps37;go_wp2_with fail;have hW:Below w.heap.size w (w.alloc (.cells #[nV xl,nV xh] 28)):=aK.alloc ae _;generalize(w.alloc (.cells #[nV xl,nV xh] 28))=W1 at*;refine (HR.out _ hW).mono ?_;rintro e w0 ⟨rfl,hb0⟩;have HB:Below w.heap.size w w0:=hW.trans (hb0.mono hW.size);clear hW hb0 HR;have hk':(k:Int)≠0:=by omega
 go_wp2_with fail;refine bodyPost_ret (v:= .tuple #[.slice none 0 0,iV (k:Int)]) (by simp[results,Tryz.results37,go_sem]) rfl ?_;exact⟨rfl,HB⟩
theorem sZ (po:Option Addr) (n pc:Nat) (d:Int) (xl xh:Nat) (w:World) (hd:d<0∨8<d)
  (hR:∀W,Below w.heap.size w W→aw 80 #[.slice po n pc] W (iV 0)):
  aw 37 #[.slice po n pc,gU xl xh,iV d] w (.tuple #[.slice none 0 0,iV 8]):=by
 have HR:=hid hR;clear hR;go_enter Tryz.func37,Tryz.ntmps37;go_wp2_with fail;have hW:Below w.heap.size w (w.alloc (.cells #[nV xl,nV xh] 28)):=aK.alloc ae _;generalize(w.alloc (.cells #[nV xl,nV xh] 28))=W1 at*;refine (HR.out _ hW).mono ?_;rintro e w0 ⟨rfl,hb0⟩;have HB:Below w.heap.size w w0:=hW.trans (hb0.mono hW.size);clear hW hb0 HR;by_cases h0:d<0
 ·clear hd;go_wp2_with fail;refine bodyPost_ret (v:= .tuple #[.slice none 0 0,iV 8]) (by simp[results,Tryz.results37,go_sem]) rfl ?_;exact⟨rfl,HB⟩
 ·have h8:8<d:=hd.resolve_left h0;clear hd;go_wp2_with fail;refine bodyPost_ret (v:= .tuple #[.slice none 0 0,iV 8]) (by simp[results,Tryz.results37,go_sem]) rfl ?_;exact⟨rfl,HB⟩
theorem uK (po:Option Addr) (n pc:Nat) (d:Int) (xl xh:Nat) (w:World) (h0:¬d<0) (h8:¬8<d)
  (hR:∀W,Below w.heap.size w W→aw 80 #[.slice po n pc] W (iV 0))
  (P:World→Value→World→Prop)
  (hP:∀W,Below w.heap.size w W→ax 82 #[.slice po n pc,gU xl xh,iV d] W fun e w'=>∃v,e= .returned v∧P W v w'∧Below W.heap.size W w'):
  ax 37 #[.slice po n pc,gU xl xh,iV d] w fun e w'=>∃W v,e= .returned (.tuple #[v,iV 0])∧P W v w'∧Below w.heap.size w w'∧w.heap.size≤W.heap.size:=by
 have HR:=hid hR;have HP:=hid hP;clear hR hP;go_enter Tryz.func37,Tryz.ntmps37;go_wp2_with fail;have B4:=af w (.cells #[nV xl,nV xh] 28);have hW:Below w.heap.size w (w.alloc (.cells #[nV xl,nV xh] 28)):=aK.alloc ae _;generalize(w.alloc (.cells #[nV xl,nV xh] 28))=W1 at*;refine (HR.out _ hW).mono ?_;rintro e w0 ⟨rfl,hb0⟩;have HB:Hid (Below w.heap.size w w0):=hW.trans (hb0.mono hW.size);obtain⟨x0,x1,-,-⟩:=aj (aa B4 hb0);have lx:=ag (aa B4 hb0);clear B4 hW hb0 HR;go_wp2_with fail;refine (HP.out _ HB.out).mono ?_;rintro e w1 ⟨v,rfl,hp,hb1⟩;have hF:Below w.heap.size w w1:=HB.out.trans (hb1.mono HB.out.size);have hs:=HB.out.size;clear x0 x1 lx HP hb1;go_wp2_with fail;refine bodyPost_ret (v:= .tuple #[v,iV 0]) (by simp[results,Tryz.results37,go_sem]) rfl ?_;exact⟨w0,v,rfl,hp,hF,hs⟩
theorem xL (po:Option Addr) (n pc:Nat) (ps:Nat→Nat) (d:Int) (xl xh al ah:Nat) (w:World) (h:WdV w po n ps) (hn:n*8≤140737488355328) (h1:xl<18446744073709551616) (h2:xh<18446744073709551616) (e1:al=(makeN xl xh).1) (e2:ah=(makeN xl xh).2.1) (r:List (Nat×Nat)) (hr:r=df ps n d al ah):
  ax 37 #[.slice po n pc,gU xl xh,iV d] w fun e w'=>∃v,e= .returned (.tuple #[v,iV (rootsE ps n d:Int)])∧w'.ownsRow w.heap.size 28 2 v r.length (bvs r)∧(r=[]↔v= .slice none 0 0)∧Below w.heap.size w w':=by
 have hR:∀W,Below w.heap.size w W→aw 80 #[.slice po n pc] W (iV (rightN ps n:Int)):=fun W hb=>um po n pc ps W (h.below hb) hn
 unfold df at hr;by_cases h0:rightN ps n≠0
 ·have he:rootsE ps n d=rightN ps n:=by unfold rootsE;rw[if_pos h0]
  rw[he,if_neg h0] at hr;subst hr;rw[he];refine(tn po n pc _ d xl xh w h0 hR).mono ?_;rintro e w' ⟨rfl,hb⟩;exact⟨_,rfl,World.ownsRow_nil _ _ _ _,by simp,hb⟩
 ·have h0':rightN ps n=0:=Decidable.not_not.1 h0;rw[h0'] at hR;by_cases hd:d<0∨8<d
  ·have he:rootsE ps n d=8:=by unfold rootsE;rw[if_neg h0,if_pos hd]
   rw[he,if_neg (by decide)] at hr;subst hr;rw[he];refine(sZ po n pc d xl xh w hd hR).mono ?_;rintro e w' ⟨rfl,hb⟩;exact⟨_,rfl,World.ownsRow_nil _ _ _ _,by simp,hb⟩
  ·have he:rootsE ps n d=0:=by unfold rootsE;rw[if_neg h0,if_neg hd]
   rw[he,if_pos rfl] at hr;rw[he];obtain⟨k,rfl⟩:∃k:Nat,d=(k:Int):=⟨d.toNat,by omega⟩;rw[Int.toNat_natCast] at hr;subst hr;refine(uK po n pc (k:Int) xl xh w (by omega) (by omega) hR (fun W v w'=>w'.ownsRow W.heap.size 28 2 v (be ps n k al ah).length (bvs (be ps n k al ah))∧(be ps n k al ah=[]↔v= .slice none 0 0)) (fun W hb=>?_)).mono ?_
   ·refine(BC h0' hn k (by omega) xl xh al ah W (h.below hb) h1 h2 e1 e2).mono ?_;rintro e w' ⟨v,a,b,c,g⟩;exact⟨v,a,⟨b,c⟩,g⟩
   ·rintro e w' ⟨W,v,rfl,⟨a,b⟩,hb,hs⟩;exact⟨v,rfl,aH a aK hs,b,hb⟩
end
section
open Go.RowKit
attribute [local go_sem] av
theorem yC (po:Option Addr) (n pc:Nat) (dep:Int) (xl xh v1 v2:Nat) (y:Value) (w:World)
  (hH:∀W,Below w.heap.size w W→aw 134 #[.slice po n pc,gF xl xh] W (.tuple #[gF v1 v2,.nilIface]))
  (hz:∀W,aw 93 #[gF v1 v2] W (.bool false)):
  aw 105 #[.slice po n pc,gF xl xh,iV dep,y] w (.bool true):=by
 have HH:=hid hH;have HZ:=hid hz;clear hH hz;go_enter Tryz.func105,Tryz.ntmps105;go_wp2_with fail;have B4:=af w (.cells #[fV xl,fV xh] 67);have hW:Below w.heap.size w (w.alloc (.cells #[fV xl,fV xh] 67)):=aK.alloc ae _;generalize(w.alloc (.cells #[fV xl,fV xh] 67))=W1 at*;refine (HH.out _ hW).mono ?_;rintro e w1 ⟨rfl,hb1⟩;have HB:Hid (Below w.heap.size w w1):=hW.trans (hb1.mono hW.size);clear B4 hW hb1 HH;have HW2:Hid (Below w.heap.size w (w1.alloc (.cells #[fV v1,fV v2] 67))):=HB.out.alloc HB.out.size _;clear HB;go_wp2_with fail;refine (HZ.out _).mono ?_;rintro e w2 ⟨rfl,hb2⟩;have hF:Below w.heap.size w w2:=HW2.out.trans (hb2.mono HW2.out.size);clear HW2 HZ hb2;go_wp2_with fail
 go_ret
 exact⟨rfl,hF⟩
end
section
open Go.RowKit
structure bU (W W':World):Prop where
 size:W.heap.size≤W'.heap.size
 os:W'.os=W.os
 tape:W'.tape=W.tape
 output:W'.output=W.output
 blk:∀(b:Nat) (x:Array Value) (t:TypeId) (f:Nat×Nat),W.heap[b]?=some (.cells x t f)→t≠33→t≠41→W'.heap[b]?=some (.cells x t f)
theorem bU.refl (W:World):bU W W:=⟨Nat.le_refl _,rfl,rfl,rfl,fun _ _ _ _ h _ _=>h⟩
theorem bU.trans {A B C:World} (h:bU A B) (k:bU B C):bU A C:=
 ⟨Nat.le_trans h.size k.size,k.os.trans h.os,k.tape.trans h.tape,k.output.trans h.output,fun b x t f e h1 h2=>k.blk b x t f (h.blk b x t f e h1 h2) h1 h2⟩
theorem bU.of_below {W W':World} (h:Below W.heap.size W W'):bU W W':=
 ⟨h.size,h.os,h.tape,h.output,fun b _ _ _ e _ _=>(h.block b (Array.getElem?_eq_some_iff.1 e).1).trans e⟩
theorem bU.put (W:World) (l:Nat) (o o':Obj) (h:W.heap[l]?=some o) (hc:o.isCells=false):bU W (W.putObj l o'):=by
 have g:=grownBy_putObj' W l o';refine⟨g.size,g.os,g.tape,g.output,fun b x t f e _ _=>?_⟩;rw[g.block b (Array.getElem?_eq_some_iff.1 e).1 (fun hb=>?_)]
 ·exact e
 ·cases hb
  rw[e] at h
  cases h
  simp[Obj.isCells] at hc
end
section
open Go.RowKit
attribute [local go_sem] av
theorem wR (po:Option Addr) (n pc:Nat) (dep:Int) (xl xh v1 v2 m:Nat) (y:Value) (w:World)
  (hH:∀W,Below w.heap.size w W→ax 134 #[.slice po n pc,gF xl xh] W fun e w'=>∃v,e= .returned (.tuple #[gF v1 v2,v])∧(v= .nilIface∧(∀W,aw 93 #[gF v1 v2] W (.bool true))∨(∃p,v= .iface 229 p)∨(∃p,v= .iface 136 p))∧Below W.heap.size W w')
  (hm:∀W,aw 152 #[gF xl xh] W (fV m))
  (hp:∀W,ax 112 #[fV m] W fun e w'=>e= .returned (.bool true)∧w'=W)
  (o1:FloatKind.f64.format.order m xl=some .gt) (o2:FloatKind.f64.format.order m xh=some .lt) (hd:0<dep) (hd8:dep≤8) (T1 T2 R:World→Prop)
  (h1:∀W,Below w.heap.size w W→ax 105 #[.slice po n pc,gF xl m,iV (dep-1),y] W fun e w'=>e= .returned (.bool true)∧T1 w'∧bU W w'∨e= .returned (.bool false)∧R w')
  (h2:∀W,T1 W→bU w W→ax 105 #[.slice po n pc,gF m xh,iV (dep-1),y] W fun e w'=>e= .returned (.bool true)∧T2 w'∧bU W w'∨e= .returned (.bool false)∧R w'):
  ax 105 #[.slice po n pc,gF xl xh,iV dep,y] w fun e w'=>e= .returned (.bool true)∧T2 w'∧bU w w'∨e= .returned (.bool false)∧R w':=by
 have HH:=hid hH;have HM:=hid hm;have HP:=hid hp;have H1:=hid h1;have H2:=hid h2;clear hH hm hp h1 h2;go_enter Tryz.func105,Tryz.ntmps105;go_wp2_with fail;have B4:=af w (.cells #[fV xl,fV xh] 67);have hW:Below w.heap.size w (w.alloc (.cells #[fV xl,fV xh] 67)):=aK.alloc ae _;generalize(w.alloc (.cells #[fV xl,fV xh] 67))=W1 at*;refine (HH.out _ hW).mono ?_;rintro e w1 ⟨v,rfl,hv,hb1⟩;have HB:Hid (Below w.heap.size w (w1.alloc (.cells #[fV v1,fV v2] 67))):=(hW.trans (hb1.mono hW.size)).alloc (Nat.le_trans hW.size hb1.size) _;have HK:Hid ((w1.alloc (.cells #[fV v1,fV v2] 67)).heap[w.heap.size]?=some (.cells #[fV xl,fV xh] 67 (0,0))):=ai (aa B4 hb1) _;obtain⟨x0,x1,-,-⟩:=aj (aa B4 hb1);have lx:=ag (aa B4 hb1);clear B4 hW hb1 HH;rcases hv with⟨rfl,hz⟩|⟨p,rfl⟩|⟨p,rfl⟩;have HZ:=hid hz;clear hz;go_wp2_with fail;clear x0 x1 lx;generalize(w1.alloc (.cells #[fV v1,fV v2] 67))=W2 at*;refine (HZ.out _).mono ?_;rintro e w2 ⟨rfl,hb2⟩;have HB2:Hid (Below w.heap.size w w2):=HB.out.trans (hb2.mono HB.out.size);have HK2:Hid (w2.heap[w.heap.size]?=some (.cells #[fV xl,fV xh] 67 (0,0))):=aa HK.out hb2;obtain⟨y0,y1,-,-⟩:=aj HK2.out;clear HB HK HZ hb2;go_wp2_with fail;rotate_left;have HB2:=HB;have HK2:=HK;clear HB HK;go_wp2_with fail;clear x0 x1 lx;generalize(w1.alloc (.cells #[fV v1,fV v2] 67))=w2 at*;obtain⟨y0,y1,-,-⟩:=aj HK2.out;rotate_left;have HB2:=HB;have HK2:=HK;clear HB HK;go_wp2_with fail;clear x0 x1 lx;generalize(w1.alloc (.cells #[fV v1,fV v2] 67))=w2 at*;obtain⟨y0,y1,-,-⟩:=aj HK2.out;rotate_left
 all_goals
  refine (HM.out _).mono ?_;rintro e w3 ⟨rfl,hb3⟩;have HB3:Hid (Below w.heap.size w w3):=HB2.out.trans (hb3.mono HB2.out.size);have HK3:Hid (w3.heap[w.heap.size]?=some (.cells #[fV xl,fV xh] 67 (0,0))):=aa HK2.out hb3;obtain⟨z0,z1,-,-⟩:=aj HK3.out;clear HB2 HK2 HM hb3 y0 y1;have hd0:dep≠0:=by omega
  go_wp2_with fail;refine (HP.out _).mono ?_;rintro e w4 ⟨rfl,rfl⟩;clear HP;go_wp2_with fail;refine (H1.out _ HB3.out).mono ?_;rintro e w5 (⟨rfl,ht,hk⟩|⟨rfl,hr⟩)
  ·have HT:=hid ht;have HC:Hid (bU w w5):=(bU.of_below HB3.out).trans hk;obtain⟨u0,u1,-,-⟩:=aj (hk.blk _ _ _ _ HK3.out (by decide) (by decide));clear ht hk HB3 HK3 H1 z0 z1;go_wp2_with fail;refine (H2.out _ HT.out HC.out).mono ?_;rintro e w6 (⟨rfl,ht2,hk2⟩|⟨rfl,hr⟩)
   ·have hF:=HC.out.trans hk2;clear u0 u1 HT HC H2;go_wp2_with fail
    go_ret
    exact .inl ⟨rfl,ht2,hF⟩
   ·clear u0 u1 HT HC H2;go_wp2_with fail
    go_ret
    exact .inr ⟨rfl,hr⟩
  ·clear z0 z1 HB3 HK3 H1 H2;go_wp2_with fail
   go_ret
   exact .inr ⟨rfl,hr⟩
end
section
open Go.RowKit Go.Shelf
attribute [local go_sem] av
attribute [local go_sem] Oper.semAt_some
theorem yD (po:Option Addr) (n pc l:Nat) (dep:Int) (xl xh v1 v2 m:Nat) (P:Bool) (w:World)
  (hH:∀W,Below w.heap.size w W→ax 134 #[.slice po n pc,gF xl xh] W fun e w'=>∃v,e= .returned (.tuple #[gF v1 v2,v])∧(v= .nilIface∧(∀W,aw 93 #[gF v1 v2] W (.bool true))∨(∃p,v= .iface 229 p)∨(∃p,v= .iface 136 p))∧Below W.heap.size W w')
  (hm:∀W,aw 152 #[gF xl xh] W (fV m))
  (hp:∀W,ax 112 #[fV m] W fun e w'=>e= .returned (.bool P)∧w'=W)
  (hL:dep=0∨(dep≠0∧P=false)∨(dep≠0∧P=true∧FloatKind.f64.format.order m xl=some .lt)∨(dep≠0∧P=true∧FloatKind.f64.format.order m xl=some .eq)∨(dep≠0∧P=true∧FloatKind.f64.format.order m xl=some .gt∧FloatKind.f64.format.order m xh=some .gt)∨(dep≠0∧P=true∧FloatKind.f64.format.order m xl=some .gt∧FloatKind.f64.format.order m xh=some .eq)) (R:Ending→World→Prop)
  (hY:∀W,Below w.heap.size w W→YieldAt Fence.wide 2 Tryz.prog l #[gF xl xh] W fun e w'=>∃b,e= .returned (.bool b)∧R e w'):
  ax 105 #[.slice po n pc,gF xl xh,iV dep,.func (.yield l) #[] #[]] w R:=by
 refine(callsIn_wide (n:=3)).1 ?_;refine callsIn_of_wp Tryz.func105 rfl trivial ?_ rfl;simp only[Tryz.ntmps105,List.size_toArray,List.length_cons,List.length_nil,Nat.reduceAdd,Nat.reduceSub,Array.replicate_succ,Array.replicate_zero,List.push_toArray,List.append_toArray,List.nil_append,List.cons_append];have HH:=hid hH;have HM:=hid hm;have HP:=hid hp;have HY:=hid hY;have HL:=hid hL;clear hH hm hY hp hL;gi_wp2_with fail;have B4:=af w (.cells #[fV xl,fV xh] 67);have hW:Below w.heap.size w (w.alloc (.cells #[fV xl,fV xh] 67)):=aK.alloc ae _;generalize(w.alloc (.cells #[fV xl,fV xh] 67))=W1 at*;refine⟨trivial,?_⟩;refine CallsIn.mono (callsIn_wide.2 (HH.out _ hW)) ?_;rintro e w1 ⟨v,rfl,hv,hb1⟩;have HB:Hid (Below w.heap.size w (w1.alloc (.cells #[fV v1,fV v2] 67))):=(hW.trans (hb1.mono hW.size)).alloc (Nat.le_trans hW.size hb1.size) _;have HK:Hid ((w1.alloc (.cells #[fV v1,fV v2] 67)).heap[w.heap.size]?=some (.cells #[fV xl,fV xh] 67 (0,0))):=ai (aa B4 hb1) _;obtain⟨x0,x1,-,-⟩:=aj (aa B4 hb1);have lx:=ag (aa B4 hb1);clear B4 hW hb1 HH;rcases hv with⟨rfl,hz⟩|⟨p,rfl⟩|⟨p,rfl⟩;have HZ:=hid hz;clear hz;gi_wp2_with fail;clear x0 x1 lx;generalize(w1.alloc (.cells #[fV v1,fV v2] 67))=W2 at*;refine⟨trivial,?_⟩;refine CallsIn.mono (callsIn_wide.2 (HZ.out _)) ?_;rintro e w2 ⟨rfl,hb2⟩;have HB2:Hid (Below w.heap.size w w2):=HB.out.trans (hb2.mono HB.out.size);have HK2:Hid (w2.heap[w.heap.size]?=some (.cells #[fV xl,fV xh] 67 (0,0))):=aa HK.out hb2;obtain⟨y0,y1,-,-⟩:=aj HK2.out;clear HB HK HZ hb2;gi_wp2_with fail;rotate_left;have HB2:=HB;have HK2:=HK;clear HB HK;gi_wp2_with fail;refine⟨trivial,?_⟩;gi_wp2_with fail;clear x0 x1 lx;generalize(w1.alloc (.cells #[fV v1,fV v2] 67))=w2 at*;obtain⟨y0,y1,-,-⟩:=aj HK2.out;rotate_left;have HB2:=HB;have HK2:=HK;clear HB HK;gi_wp2_with fail;refine⟨trivial,?_⟩;gi_wp2_with fail;clear x0 x1 lx;generalize(w1.alloc (.cells #[fV v1,fV v2] 67))=w2 at*;obtain⟨y0,y1,-,-⟩:=aj HK2.out;rotate_left
 all_goals
  refine⟨trivial,?_⟩;refine CallsIn.mono (callsIn_wide.2 (HM.out _)) ?_;rintro e w3 ⟨rfl,hb3⟩;have HB3:Hid (Below w.heap.size w w3):=HB2.out.trans (hb3.mono HB2.out.size);obtain⟨z0,z1,-,-⟩:=aj (aa HK2.out hb3);obtain⟨fn,tmps,assign,body,hy,hR⟩:=HY.out _ HB3.out;clear HB2 HK2 HM hb3 y0 y1 HY;have hL:=HL.out;clear HL;rcases hL with rfl|⟨hd,rfl⟩|⟨hd,rfl,o1⟩|⟨hd,rfl,o1⟩|⟨hd,rfl,o1,o2⟩|⟨hd,rfl,o1,o2⟩
  ·clear HP;gi_wp2_with fail;refine⟨trivial,?_⟩;gi_wp2_with fail;refine hR.mono ?_;rintro e w5 ⟨b,rfl,hr⟩;clear hR hy;gi_wp2_with fail;exact hr
  all_goals
   gi_wp2_with fail;refine⟨trivial,?_⟩;refine CallsIn.mono (callsIn_wide.2 (HP.out _)) ?_;rintro e w4 ⟨rfl,rfl⟩;clear HP;gi_wp2_with fail;refine hR.mono ?_;rintro e w5 ⟨b,rfl,hr⟩;clear hR hy;gi_wp2_with fail;exact hr
end
section
open Go.RowKit Go.Extern Ieee
theorem nH {l h:Nat} (j:Iv l h) (W:World):aw 93 #[gF l h] W (.bool (holdsT (plT l) (plT h))):=by
 obtain⟨o1,ho1,hl1,hg1⟩:=j6 j;obtain⟨o2,ho2,hl2,hg2⟩:=j6 j.high
 have hh:(o1 != .gt && o2 != .lt)=holdsT (plT l) (plT h):=by
  have x1:(o1 != .gt)=decide (sgnI (plT l).1 (plT l).2.1≤0):=by
   by_cases h:0<sgnI (plT l).1 (plT l).2.1
   ·rw[hg1.2 h,decide_eq_false (by omega)];rfl
   ·rw[decide_eq_true (show sgnI (plT l).1 (plT l).2.1≤0 by omega)]
    cases o1 with
    |lt=>rfl
    |eq=>rfl
    |gt=>exact absurd (hg1.1 rfl) h
  have x2:(o2 != .lt)=decide (0≤sgnI (plT h).1 (plT h).2.1):=by
   by_cases hc:sgnI (plT h).1 (plT h).2.1<0
   ·rw[hl2.2 hc,decide_eq_false (by omega)];rfl
   ·rw[decide_eq_true (show 0≤sgnI (plT h).1 (plT h).2.1 by omega)]
    cases o2 with
    |lt=>exact absurd (hl2.1 rfl) hc
    |eq=>rfl
    |gt=>rfl
  rw[x1,x2];unfold holdsT
  rfl
 have:=oA l h o1 o2 W ho1 ho2;rwa [hh] at this
theorem lT {a b:Nat} (i:Iv a a) (j:Iv b b):∃o,FloatKind.f64.format.order a b=some o∧(o= .lt↔aW a<aW b)∧(o= .gt↔aW b<aW a):=by
 have ho:double.order a b=_:=lv i.f1 j.f1;have h1:=Ak i.f1 j.f1 i.q1 j.q1;have h2:=Ak j.f1 i.f1 j.q1 i.q1;refine⟨_,ho,?_,?_⟩
 ·rw[←h1,Int.compare_eq_lt]
 ·rw[←h2,Int.compare_eq_gt]
theorem BK (A:Nat→Addr) (ao:Option Addr) (n c:Nat) (ps:Nat→Nat) (xl xh:Nat) (w:World) (hS:aE A w) (h:FlV w ao n ps) (hp:∀i,i<n→ps i<18446744073709551616) (hr:rightN ps n=0) (ix:Iv xl xh):
  ax 134 #[.slice ao n c,gF xl xh] w fun ev w'=>OpR A w (bE ps n (plT xl) (plT xh)).1 (bE ps n (plT xl) (plT xh)).2.1 (bE ps n (plT xl) (plT xh)).2.2.1 (bE ps n (plT xl) (plT xh)).2.2.2 ev w':=by
 obtain⟨hn1,hn9,hpl⟩:=dR hr;obtain⟨m,rfl⟩:∃m,n=m+1:=⟨n-1,by omega⟩;have hk:=A0 (xl:=xl) (xh:=xh) hr hp;obtain⟨r,e⟩:∃r,r=bE ps (m+1) (plT xl) (plT xh):=⟨_,rfl⟩;have e2:r=(fun t=>hornN ps (m+1) (plT xl) (plT xh) (m-t)) 0:=by rw[e];unfold bE;rw[if_neg (by omega)];rfl
 rw[←e];clear e;generalize(fun t=>hornN ps (m+1) (plT xl) (plT xh) (m-t))=H at*;subst e2;obtain⟨g,off,rfl,hg,hc⟩:=h.resolve_left (by omega);exact rr A g off m c ps xl xh w hS hg hc (by omega) (fun i hi W=>rG (ps i) W (hp i hi) (hpl i hi)) (fun i hi=>kT (hp i hi) (hpl i hi)) ix H hk
end
section
open Go.RowKit Go.Shelf
theorem p8 (A:Nat→Addr) (lid:Nat) {ps:Nat→Nat} {po:Option Addr} {n pc:Nat} (w0:World) (hS:aE A w0) (hF:FlV w0 po n ps) (hp:∀i,i<n→ps i<18446744073709551616) (hr:rightN ps n=0) (J Jx:List (Nat×Nat)→World→Prop) (N:Nat)
  (hJ:∀pre W W',J pre W→Below W.heap.size W W'→J pre W')
  (hY:∀pre x W,J pre W→pre.length<N→YieldAt Fence.wide 2 Tryz.prog lid #[gF x.1 x.2] W fun e W'=>(e= .returned (.bool true)∧J (pre++[x]) W'∧bU W W'∧Below w0.heap.size W W')∨(e= .returned (.bool false)∧Jx (pre++[x]) W'))
  (d:Nat) (hd:d≤8) (xl xh:Nat) (i:Iv xl xh) (pre:List (Nat×Nat)) (W:World) (hW:Below w0.heap.size w0 W) (hj:J pre W) (hN:pre.length+(be ps n d xl xh).length≤N)
  (rec:∀d',d=d'+1→∀(xl xh:Nat) (_:Iv xl xh) (pre:List (Nat×Nat)) (W:World),Below w0.heap.size w0 W→J pre W→pre.length+(be ps n d' xl xh).length≤N→ax 105 #[.slice po n pc,gF xl xh,iV (d':Int),.func (.yield lid) #[] #[]] W fun e w'=>(e= .returned (.bool true)∧J (pre++be ps n d' xl xh) w'∧bU W w'∧Below w0.heap.size w0 w')∨(e= .returned (.bool false)∧∃q,q<+:be ps n d' xl xh∧Jx (pre++q) w')):
  ax 105 #[.slice po n pc,gF xl xh,iV (d:Int),.func (.yield lid) #[] #[]] W fun e w'=>(e= .returned (.bool true)∧J (pre++be ps n d xl xh) w'∧bU W w'∧Below w0.heap.size w0 w')∨(e= .returned (.bool false)∧∃q,q<+:be ps n d xl xh∧Jx (pre++q) w'):=by
 have tr:∀W',Below W.heap.size W W'→Below w0.heap.size w0 W':=fun W' hb=>hW.trans (hb.mono hW.size)
 have iV:=zd (x1:=plT xl) (x2:=plT xh) hr hp;have hO:=fun(W':World) (hb:Below W.heap.size W W')=>BK A po n pc ps xl xh W' (hS.below (tr W' hb) ae) (hF.below (tr W' hb)) hp hr i
 by_cases hdr:jj ps n xl xh=true
 ·rw[qf hdr];unfold jj at hdr;rw[Bool.and_eq_true,decide_eq_true_eq,Bool.not_eq_true'] at hdr;refine(yC po n pc _ xl xh (bE ps n (plT xl) (plT xh)).1 (bE ps n (plT xl) (plT xh)).2.1 _ W (fun W' hb=>?_) (fun W'=>?_)).mono ?_
  ·refine(hO W' hb).mono ?_;intro e w' h;unfold OpR at h;obtain⟨v,rfl,hE,hb'⟩:=h;rw[hdr.1] at hE;exact⟨by rw[hE.zero],hb'⟩
  ·have:=nH iV W';rwa [hdr.2] at this
  ·rintro e w' ⟨rfl,hb⟩;exact .inl ⟨rfl,by rw[List.append_nil];exact hJ _ _ _ hj hb,bU.of_below hb,tr _ hb⟩
 ·have hH:∀W',Below W.heap.size W W'→ax 134 #[.slice po n pc,gF xl xh] W' fun e w'=>∃v,e= .returned (.tuple #[.agg #[fV (bE ps n (plT xl) (plT xh)).1,fV (bE ps n (plT xl) (plT xh)).2.1],v])∧(v= .nilIface∧(∀W,aw 93 #[.agg #[fV (bE ps n (plT xl) (plT xh)).1,fV (bE ps n (plT xl) (plT xh)).2.1]] W (.bool true))∨(∃p,v= .iface 229 p)∨(∃p,v= .iface 136 p))∧Below W'.heap.size W' w':=by
   intro W' hb;refine(hO W' hb).mono ?_;intro e w' h;unfold OpR at h;obtain⟨v,rfl,hE,hb'⟩:=h;refine⟨v,rfl,?_,hb'⟩;by_cases hc:(bE ps n (plT xl) (plT xh)).2.2.1=0
   ·rw[hc] at hE;refine .inl ⟨hE.zero,fun W2=>?_⟩;have:=nH iV W2
    cases hh:holdsT (plT (bE ps n (plT xl) (plT xh)).1) (plT (bE ps n (plT xl) (plT xh)).2.1)
    ·exfalso;apply hdr;unfold jj;rw[hh,decide_eq_true hc];rfl
    ·rwa [hh] at this
   ·generalize(bE ps n (plT xl) (plT xh)).2.2.1=k at*;generalize(bE ps n (plT xl) (plT xh)).2.2.2=s at*;rcases hE with⟨rfl,rfl,rfl⟩|⟨k,h,rfl,rfl,rfl⟩|⟨k,h,b,hh,rfl,rfl⟩
    ·exact absurd rfl hc
    ·exact .inr (.inl ⟨_,rfl⟩)
    ·exact .inr (.inr ⟨_,rfl⟩)
  have hm:=fun W':World=>Aw i W'
  have hml:il xl xh<18446744073709551616:=(uY _ _).1
  have hpl:∀W',ax 112 #[fV (il xl xh)] W' fun e w'=>e= .returned (.bool (midT xl xh).2)∧w'=W':=fun W'=>by
   have:=fG (il xl xh) W' hml;rwa [(jO i).1] at this
  by_cases hleaf:d=0∨¬jF xl xh=true
  ·rw[pZ hdr hleaf] at hN⊢;refine yD po n pc lid (d:Int) xl xh _ _ (il xl xh) (midT xl xh).2 W hH hm hpl ?_ _ (fun W' hb=>?_)
   ·by_cases h0:d=0
    ·left;omega
    ·right;have hd0:(d:Int)≠0:=by omega
     have hc:=hleaf.resolve_left h0
     cases hP:(midT xl xh).2
     ·exact .inl ⟨hd0,rfl⟩
     ·right;obtain⟨e,f⟩:=(jO i).2 hP
      have im:Iv (il xl xh) (il xl xh):=by
       have a:=(jO i).1;rw[hP] at a;exact⟨f.lt,f.lt,f.nz,f.nz,cC a,cC a,Int.le_refl _⟩
      obtain⟨o1,a1,b1,c1⟩:=lT im i.low;obtain⟨o2,a2,b2,c2⟩:=lT im i.high
      cases o1 with
      |lt=>exact .inl ⟨hd0,rfl,a1⟩
      |eq=>exact .inr (.inl ⟨hd0,rfl,a1⟩)
      |gt=>
       cases o2 with
       |gt=>exact .inr (.inr (.inl ⟨hd0,rfl,a1,a2⟩))
       |eq=>exact .inr (.inr (.inr ⟨hd0,rfl,a1,a2⟩))
       |lt=>
        exfalso;apply hc;unfold jF;rw[hP,←e,decide_eq_true (c1.1 rfl),decide_eq_true (b2.1 rfl)]
        rfl
   ·refine YieldAt.mono (hY pre (xl,xh) W' (hJ _ _ _ hj hb) (by simp at hN;omega)) ?_;rintro e w' (⟨rfl,h1,h2,h3⟩|⟨rfl,h1⟩)
    ·exact⟨true,rfl,.inl ⟨rfl,h1,(bU.of_below hb).trans h2,(tr _ hb).trans h3⟩⟩
    ·exact⟨false,rfl,.inr ⟨rfl,_,List.prefix_rfl,h1⟩⟩
  ·have hd0:d≠0:=fun h=>hleaf (.inl h)
   have hcc:jF xl xh=true:=Decidable.byContradiction fun h=>hleaf (.inr h)
   obtain⟨d',rfl⟩:∃d',d=d'+1:=⟨d-1,by omega⟩;rw[rA hdr hcc] at hN⊢;obtain⟨i1,i2,em⟩:=Df i hcc;have hc':=hcc;unfold jF at hc';rw[Bool.and_eq_true,Bool.and_eq_true,decide_eq_true_eq,decide_eq_true_eq] at hc';obtain⟨c1,c2,c3⟩:=hc';rw[em] at hm;rw[em,c1] at hpl;rw[List.length_append] at hN;obtain⟨o1,a1,b1,g1⟩:=lT i1.high i.low;obtain⟨o2,a2,b2,g2⟩:=lT i1.high i.high;rw[g1.2 c2] at a1;rw[b2.2 c3] at a2;refine(wR po n pc ((d'+1:Nat):Int) xl xh _ _ (midT xl xh).1 _ W hH hm hpl a1 a2 (by omega) (by omega) (fun w'=>J (pre++be ps n d' xl (midT xl xh).1) w'∧Below w0.heap.size w0 w') (fun w'=>J (pre++(be ps n d' xl (midT xl xh).1++be ps n d' (midT xl xh).1 xh)) w'∧Below w0.heap.size w0 w') (fun w'=>∃q,q<+:be ps n d' xl (midT xl xh).1++be ps n d' (midT xl xh).1 xh∧Jx (pre++q) w') (fun W' hb=>?_) (fun W' ht hk=>?_)).mono ?_
   ·have:=rec d' rfl xl (midT xl xh).1 i1 pre W' (tr _ hb) (hJ _ _ _ hj hb) (by omega);rw[show((d':Nat):Int)=((d'+1:Nat):Int)-1 by omega] at this;refine this.mono ?_;rintro e w' (⟨rfl,h1,h2,h3⟩|⟨rfl,q,h1,h2⟩)
    ·exact .inl ⟨rfl,⟨h1,h3⟩,h2⟩
    ·exact .inr ⟨rfl,q,h1.trans (List.prefix_append _ _),h2⟩
   ·have:=rec d' rfl (midT xl xh).1 xh i2 _ W' ht.2 ht.1 (by rw[List.length_append];omega);rw[show((d':Nat):Int)=((d'+1:Nat):Int)-1 by omega] at this;refine this.mono ?_;rintro e w' (⟨rfl,h1,h2,h3⟩|⟨rfl,q,h1,h2⟩)
    ·exact .inl ⟨rfl,⟨by rw[←List.append_assoc];exact h1,h3⟩,h2⟩
    ·exact .inr ⟨rfl,_++q,(List.prefix_append_right_inj _).2 h1,by rw[←List.append_assoc];exact h2⟩
   ·rintro e w' (⟨rfl,⟨h1,h3⟩,h2⟩|⟨rfl,h⟩)
    ·exact .inl ⟨rfl,h1,h2,h3⟩
    ·exact .inr ⟨rfl,h⟩
theorem AD (A:Nat→Addr) (lid:Nat) {ps:Nat→Nat} {po:Option Addr} {n pc:Nat} (w0:World) (hS:aE A w0) (hF:FlV w0 po n ps) (hp:∀i,i<n→ps i<18446744073709551616) (hr:rightN ps n=0) (J Jx:List (Nat×Nat)→World→Prop) (N:Nat)
  (hJ:∀pre W W',J pre W→Below W.heap.size W W'→J pre W')
  (hY:∀pre x W,J pre W→pre.length<N→YieldAt Fence.wide 2 Tryz.prog lid #[gF x.1 x.2] W fun e W'=>(e= .returned (.bool true)∧J (pre++[x]) W'∧bU W W'∧Below w0.heap.size W W')∨(e= .returned (.bool false)∧Jx (pre++[x]) W')):
  ∀(d:Nat),d≤8→∀(xl xh:Nat) (_:Iv xl xh) (pre:List (Nat×Nat)) (W:World),Below w0.heap.size w0 W→J pre W→pre.length+(be ps n d xl xh).length≤N→ax 105 #[.slice po n pc,gF xl xh,iV (d:Int),.func (.yield lid) #[] #[]] W fun e w'=>(e= .returned (.bool true)∧J (pre++be ps n d xl xh) w'∧bU W w'∧Below w0.heap.size w0 w')∨(e= .returned (.bool false)∧∃q,q<+:be ps n d xl xh∧Jx (pre++q) w'):=by
 intro d
 induction d with
 |zero=>
  intro hd xl xh i pre W hW hj hN;exact p8 A lid w0 hS hF hp hr J Jx N hJ hY 0 hd xl xh i pre W hW hj hN (fun d' h=>by omega)
 |succ d ih=>
  intro hd xl xh i pre W hW hj hN;refine p8 A lid w0 hS hF hp hr J Jx N hJ hY (d+1) hd xl xh i pre W hW hj hN (fun d' h=>?_);obtain rfl:d=d':=by omega
  exact ih (by omega)
end
section
open Go.RowKit Go.Shelf
attribute [local go_sem] av
theorem AT {m m':Nat} {P:Program} {l:Nat} {f:FuncId} {tmps:Array Value} {assign body:Code} {w:World} {R:Ending→World→Prop}
  (h:RoundIn Fence.wide m P l f tmps assign body w R):RoundIn Fence.wide m' P l f tmps assign body w R:=⟨h.1,fun c cs _=>h.2 c cs (fun d h=>by cases h)⟩
theorem AM {m:Nat} (m':Nat) {P:Program} {l:Nat} {args:Array Value} {W:World} {R:Ending→World→Prop} (h:YieldAt Fence.wide m P l args W R):YieldAt Fence.wide m' P l args W R:=by
 obtain⟨fn,tmps,assign,body,hy,hR⟩:=h;exact⟨fn,tmps,assign,body,hy,AT hR⟩
theorem mb {W W':World} (h:Below W.heap.size W W'):W.grownBy W' none:=⟨h.os,h.tape,h.output,h.size,fun k hk _=>h.block k hk⟩
theorem xI {P:Program} (w:World) (d:Nat) (t:TypeId) {x y:Array TypeId} {z:Bool} (h:P.underlying t=some (.func x y z)) (fn:Fn) (a b:Array Value):(Op.equalIn (d+1) t (.func fn a b) .nilFunc).run P w= .ok false w:=by
 simp[Op.equalIn,run_underlying h]
theorem xA {P:Program} (w:World) (d:Nat) (t:TypeId) {x y:Array TypeId} {z:Bool} (h:P.underlying t=some (.func x y z)):(Op.equalIn (d+1) t .nilFunc .nilFunc).run P w= .ok true w:=by
 simp[Op.equalIn,run_underlying h]
theorem rX {P:Program} (w:World) (t:TypeId) {x y:Array TypeId} {z:Bool} (h:P.underlying t=some (.func x y z)) (fn:Fn) (a b:Array Value):(Op.equal t (.func fn a b) .nilFunc).run P w= .ok false w:=xI w 9999 t h fn a b
theorem Aq {P:Program} (w:World) (t:TypeId) {x y:Array TypeId} {z:Bool} (h:P.underlying t=some (.func x y z)):(Op.equal t .nilFunc .nilFunc).run P w= .ok true w:=xA w 9999 t h
theorem Eg {P:Program} (w:World) (t:TypeId) {x y:Array TypeId} {z:Bool} (h:P.underlying t=some (.func x y z)) (fn:Fn) (a b:Array Value):(binOp .neq t (.func fn a b) .nilFunc).run P w= .ok (.bool true) w:=by
 simp[binOp,rX w t h fn a b]
theorem EF {P:Program} (w:World) (t:TypeId) {x y:Array TypeId} {z:Bool} (h:P.underlying t=some (.func x y z)) (fn:Fn) (a b:Array Value):(binOp .eql t (.func fn a b) .nilFunc).run P w= .ok (.bool false) w:=by
 simp[binOp,rX w t h fn a b]
theorem Dx {P:Program} (w:World) (t:TypeId) {x y:Array TypeId} {z:Bool} (h:P.underlying t=some (.func x y z)):(binOp .eql t .nilFunc .nilFunc).run P w= .ok (.bool true) w:=by
 simp[binOp,Aq w t h]
theorem BJ (po:Option Addr) (n pc lid b1 b2 b3 xl xh:Nat) (d:Int) (W:World)
  (k1:Boxed W b1 80 (.slice po n pc)) (k2:W.heap[b2]?=some (.cells #[fV xl,fV xh] 67 (0,0))) (k3:Boxed W b3 3 (iV d)) (R:World→Prop)
  (hs:ax 105 #[.slice po n pc,gF xl xh,iV d,.func (.yield lid) #[] #[]] W fun e w'=>∃b,e= .returned (.bool b)∧R w'):
  ax 104 #[.func (.yield lid) #[] #[],.pointer (some ⟨b1,0,none⟩),.pointer (some ⟨b2,0,none⟩),.pointer (some ⟨b3,0,none⟩)] W fun e w'=>(∃v,e= .returned v)∧R w':=by
 have HS:=hid hs;clear hs;have hyn:=fun(w:World)=>Eg (P:=Tryz.prog) w 149 Tryz.underlying149 (.yield lid) #[] #[]
 have c1:=k1.cell;have c3:=k3.cell;obtain⟨x0,x1,-,-⟩:=aj k2;clear k1 k2 k3;go_enter Tryz.func104,Tryz.ntmps104;go_wp2_with fail;refine Calls.mono HS.out ?_;rintro e w' ⟨b,rfl,hr⟩;clear HS c1 c3 x0 x1;go_wp2_with fail
 go_end0
 exact⟨⟨_,rfl⟩,hr⟩
def fB (n0:Nat) (W W':World):Prop:=bU W W'∧Below n0 W W'
theorem fB.trans {n0:Nat} {A B C:World} (h:fB n0 A B) (k:fB n0 B C):fB n0 A C:=⟨h.1.trans k.1,h.2.trans k.2⟩
theorem fB.refl (n0:Nat) (W:World):fB n0 W W:=⟨bU.refl W,Below.refl _ _⟩
theorem fB.put {n0:Nat} {w:World} (hn:n0≤w.heap.size) (W:World) (l:Nat) (o o':Obj) (hl:w.heap.size≤l) (h:W.heap[l]?=some o) (hc:o.isCells=false) (hw:o.isWalk=false):fB n0 W (W.putObj l o'):=
 ⟨bU.put W l o o' h hc,belowK_b hn W l o o' hl h hc hw⟩
def sI (x:Nat×Nat):Array Value:=#[gF x.1 x.2]
theorem AR (A:Nat→Addr) {ps:Nat→Nat} {po:Option Addr} {n pc:Nat} (w0:World) (hS:aE A w0) (hF:FlV w0 po n ps) (hp:∀i,i<n→ps i<18446744073709551616) (hr:rightN ps n=0)
  (d:Nat) (hd:d≤8) (xl xh:Nat) (i:Iv xl xh) (b1 b2 b3 m:Nat)
  (k1:Boxed w0 b1 80 (.slice po n pc)) (k2:w0.heap[b2]?=some (.cells #[fV xl,fV xh] 67 (0,0))) (k3:Boxed w0 b3 3 (iV (d:Int))):
  SeqStopsK Fence.wide m Tryz.prog 104 #[.pointer (some ⟨b1,0,none⟩),.pointer (some ⟨b2,0,none⟩),.pointer (some ⟨b3,0,none⟩)] sI (fB w0.heap.size) (fun ys=>ys=be ps n d xl xh) (fun pre=>pre<+:be ps n d xl xh) (be ps n d xl xh).length w0:=by
 intro lid J Jx W hW hJ hJx hY h0;refine callsIn_wide.2 ?_
 have hs:=AD A lid (pc:=pc) w0 hS hF hp hr J Jx (be ps n d xl xh).length (fun pre W W' hj hb=>hJ pre W W' none hj (mb hb) (fun r e=>by cases e)) (fun pre x W hj hl=>by
  refine YieldAt.mono (AM 2 (hY pre x W hj hl)) ?_;rintro e w' (⟨rfl,a,b,c⟩|h)
  ·exact .inl ⟨rfl,a,b,c⟩
  ·exact .inr h) d hd xl xh i [] W hW h0 (by simp)
 refine(BJ po n pc lid b1 b2 b3 xl xh (d:Int) W (aa k1 hW) (aa k2 hW) (aa k3 hW) (fun w'=>(∃xs,xs=be ps n d xl xh∧J xs w')∨(∃pre,pre<+:be ps n d xl xh∧Jx pre w')) (hs.mono ?_)).mono ?_
 ·rintro e w' (⟨rfl,a,-,-⟩|⟨rfl,q,a,b⟩)
  ·exact⟨true,rfl,.inl ⟨_,rfl,a⟩⟩
  ·exact⟨false,rfl,.inr ⟨q,a,b⟩⟩
 ·rintro e w' h;exact h
end
section
open Go.RowKit Go.Shelf
attribute [local go_sem] av
theorem An (po:Option Addr) (n c xl xh:Nat) (d:Int) (w:World) (R:Value→World→Prop)
  (hC:∀W,Below w.heap.size w W→ax 102 #[.slice po n c] W fun e w'=>∃v,e= .returned v∧((∃p,v= .iface 229 p)∨(∃p,v= .iface 136 p))∧R v w'∧Below W.heap.size W w'):
  ax 53 #[.slice po n c,gF xl xh,iV d] w fun e w'=>∃v,e= .returned (.tuple #[.nilFunc,v])∧R v w'∧Below w.heap.size w w':=by
 have HC:=hid hC;clear hC;go_enter Tryz.func53,Tryz.ntmps53;go_wp2_with fail;have hW:Below w.heap.size w ((w.alloc (.cells #[fV xl,fV xh] 67)).alloc (.cells #[iV d] 3)):=aJ.alloc (by simp) _;generalize((w.alloc (.cells #[fV xl,fV xh] 67)).alloc (.cells #[iV d] 3))=W1 at*;refine (HC.out _ hW).mono ?_;rintro e w1 ⟨v,rfl,hv,hR,hb1⟩;have hB:Below w.heap.size w w1:=hW.trans (hb1.mono hW.size);clear hW hb1 HC;rcases hv with⟨p,rfl⟩|⟨p,rfl⟩
 ·go_wp2_with fail;refine bodyPost_ret (v:= .tuple #[.nilFunc,.iface 229 p]) (by simp[results,Tryz.results53,go_sem]) rfl ?_;exact⟨_,rfl,hR,hB⟩
 ·go_wp2_with fail;refine bodyPost_ret (v:= .tuple #[.nilFunc,.iface 136 p]) (by simp[results,Tryz.results53,go_sem]) rfl ?_;exact⟨_,rfl,hR,hB⟩
theorem wl (po:Option Addr) (n c xl xh:Nat) (d:Int) (w:World) (p:Value) (hd:d<0∨8<d) (hg:∀W,Below w.heap.size w W→W.cell? ⟨7,0,none⟩=some (.iface 229 p))
  (hC:∀W,Below w.heap.size w W→aw 102 #[.slice po n c] W .nilIface):
  aw 53 #[.slice po n c,gF xl xh,iV d] w (.tuple #[.nilFunc,.iface 229 p]):=by
 have HC:=hid hC;have HG:=hid hg;have HD:=hid hd;clear hC hg hd;go_enter Tryz.func53,Tryz.ntmps53;go_wp2_with fail;have hW:Below w.heap.size w ((w.alloc (.cells #[fV xl,fV xh] 67)).alloc (.cells #[iV d] 3)):=aJ.alloc (by simp) _;have B2:Boxed ((w.alloc (.cells #[fV xl,fV xh] 67)).alloc (.cells #[iV d] 3)) (w.alloc (.cells #[fV xl,fV xh] 67)).heap.size _ _:=Boxed.new _ _ _;rw[World.size_alloc] at B2;generalize((w.alloc (.cells #[fV xl,fV xh] 67)).alloc (.cells #[iV d] 3))=W1 at*;refine (HC.out _ hW).mono ?_;rintro e w1 ⟨rfl,hb1⟩;have hB:Below w.heap.size w w1:=hW.trans (hb1.mono hW.size);have c2:=Boxed.cell (show Boxed w1 _ _ _ from aa B2 hb1);have cg:=HG.out w1 hB;have HB:=hid hB;clear hW hb1 HC B2 hB HG;by_cases h0:d<0
 ·clear HD;go_wp2_with fail;go_region
  all_goals go_wp2_with fail
  all_goals refine bodyPost_ret (v:= .tuple #[.nilFunc,.iface 229 p]) (by simp[results,Tryz.results53,go_sem]) rfl ?_
  all_goals exact⟨rfl,HB.out.drew⟩
 ·have h8:=HD.out.resolve_left h0;clear HD;go_wp2_with fail;go_region
  all_goals go_wp2_with fail
  all_goals refine bodyPost_ret (v:= .tuple #[.nilFunc,.iface 229 p]) (by simp[results,Tryz.results53,go_sem]) rfl ?_
  all_goals exact⟨rfl,HB.out.drew⟩
theorem xZ (po:Option Addr) (n c xl xh:Nat) (ps:Nat→Nat) (d:Int) (w:World) (h0:¬d<0) (h8:¬8<d)
  (hC:∀W,Below w.heap.size w W→aw 102 #[.slice po n c] W .nilIface)
  (hL:∀W,Below w.heap.size w W→ax 103 #[.slice po n c] W fun e w'=>∃bo bc,e= .returned (.slice bo n bc)∧w'.ownsRow W.heap.size 65 1 (.slice bo n bc) n (fvs ps n)∧Below W.heap.size W w'):
  ax 53 #[.slice po n c,gF xl xh,iV d] w fun e w'=>∃b1 b2 b3 qo qc,e= .returned (.tuple #[(.func (.func 104) #[] #[.pointer (some ⟨b1,0,none⟩),.pointer (some ⟨b2,0,none⟩),.pointer (some ⟨b3,0,none⟩)]),.nilIface])∧w.heap.size≤b1∧w.heap.size≤b2∧w.heap.size≤b3∧Boxed w' b1 80 (.slice qo n qc)∧w'.heap[b2]?=some (.cells #[fV xl,fV xh] 67 (0,0))∧Boxed w' b3 3 (iV d)∧w'.ownsRow w.heap.size 65 1 (.slice qo n qc) n (fvs ps n)∧Below w.heap.size w w':=by
 have hmf:∀(fn:Fn) (first cap:Array Value) (w:World),(Instr.makeFunc fn first cap).run Tryz.prog w= .ok (.func fn first cap) w:=fun _ _ _ _=>rfl
 have HC:=hid hC;have HL:=hid hL;clear hC hL;go_enter Tryz.func53,Tryz.ntmps53;go_wp2_with fail;have hW:Below w.heap.size w ((w.alloc (.cells #[fV xl,fV xh] 67)).alloc (.cells #[iV d] 3)):=aJ.alloc (by simp) _;have B1:=ai (af w (.cells #[fV xl,fV xh] 67)) (.cells #[iV d] 3);have B2:Boxed ((w.alloc (.cells #[fV xl,fV xh] 67)).alloc (.cells #[iV d] 3)) (w.alloc (.cells #[fV xl,fV xh] 67)).heap.size _ _:=Boxed.new _ _ _;rw[World.size_alloc] at B2;generalize((w.alloc (.cells #[fV xl,fV xh] 67)).alloc (.cells #[iV d] 3))=W1 at*;refine (HC.out _ hW).mono ?_;rintro e w1 ⟨rfl,hb1⟩;have HB:Hid (Below w.heap.size w w1):=hW.trans (hb1.mono hW.size);have K1:=hid (aa B1 hb1);have K2:Hid (Boxed w1 _ _ _):=aa B2 hb1;have c2:=K2.out.cell;clear hW hb1 HC B1 B2;go_wp2_with fail;refine (HL.out _ HB.out).mono ?_;rintro e w2 ⟨bo,bc,rfl,ho,hb2⟩;have HB2:Hid (Below w.heap.size w w2):=HB.out.trans (hb2.mono HB.out.size);have K1:=hid (aa K1.out hb2);have K2:Hid (Boxed w2 _ _ _):=aa K2.out hb2;have HO:Hid (w2.ownsRow w.heap.size 65 1 (.slice bo n bc) n (fvs ps n)):=aH ho aK HB.out.size;clear ho hb2 HB HL c2;go_wp2_with fail;refine bodyPost_ret (v:= .tuple #[.func (.func 104) #[] #[.pointer (some ⟨w2.heap.size,0,none⟩),.pointer (some ⟨w.heap.size,0,none⟩),.pointer (some ⟨w.heap.size+1,0,none⟩)],.nilIface]) (by simp[results,Tryz.results53,go_sem]) rfl ?_;exact⟨_,_,_,bo,bc,rfl,HB2.out.size,Nat.le_refl _,Nat.le_succ _,Boxed.new _ _ _,ai K1.out _,K2.out.alloc _,HO.out.alloc _,HB2.out.alloc HB2.out.size _⟩
theorem rE (A:Nat→Addr) (po:Option Addr) (n c xl xh:Nat) (ps:Nat→Nat) (d:Int) (w:World) (hS:aE A w) (h:FlV w po n ps) (hp:∀i,i<n→ps i<18446744073709551616) (hn:n*8≤140737488355328):
  ax 53 #[.slice po n c,gF xl xh,iV d] w fun e w'=>∃f v,e= .returned (.tuple #[f,v])∧aR A w' v (rootsE ps n d) ⟨#[]⟩∧Below w.heap.size w w'∧(rootsE ps n d≠0∧f= .nilFunc∨rootsE ps n d=0∧∃b1 b2 b3 qo qc,f=(.func (.func 104) #[] #[.pointer (some ⟨b1,0,none⟩),.pointer (some ⟨b2,0,none⟩),.pointer (some ⟨b3,0,none⟩)])∧w.heap.size≤b1∧w.heap.size≤b2∧w.heap.size≤b3∧Boxed w' b1 80 (.slice qo n qc)∧w'.heap[b2]?=some (.cells #[fV xl,fV xh] 67 (0,0))∧Boxed w' b3 3 (iV d)∧w'.ownsRow w.heap.size 65 1 (.slice qo n qc) n (fvs ps n)):=by
 have hC:∀W,Below w.heap.size w W→ax 102 #[.slice po n c] W fun e w'=>∃v,e= .returned v∧aR A w' v (rightN ps n) ⟨#[]⟩∧Below W.heap.size W w':=fun W hb=>tP A po n c ps W (hS.below hb ae) (h.below hb) hp hn
 by_cases h0:rightN ps n≠0
 ·have he:rootsE ps n d=rightN ps n:=by unfold rootsE;rw[if_pos h0]
  rw[he];refine(An po n c xl xh d w (fun v w'=>aR A w' v (rightN ps n) ⟨#[]⟩) (fun W hb=>?_)).mono ?_
  ·refine(hC W hb).mono ?_;rintro e w' ⟨v,rfl,hE,hb'⟩;refine⟨v,rfl,?_,hE,hb'⟩;generalize rightN ps n=k at*;rcases hE with⟨rfl,rfl,-⟩|⟨k,h,rfl,rfl,-⟩|⟨k,h,b,hh,rfl,rfl⟩
   ·exact absurd rfl h0
   ·exact .inl ⟨_,rfl⟩
   ·exact .inr ⟨_,rfl⟩
  ·rintro e w' ⟨v,rfl,hE,hb⟩;exact⟨_,v,rfl,hE,hb,.inl ⟨h0,rfl⟩⟩
 ·have h0':rightN ps n=0:=Decidable.not_not.1 h0
  have hC':∀W,Below w.heap.size w W→aw 102 #[.slice po n c] W .nilIface:=by
   intro W hb;refine(hC W hb).mono ?_;rintro e w' ⟨v,rfl,hE,hb'⟩;rw[h0'] at hE;exact⟨by rw[hE.zero],hb'⟩
  by_cases hd:d<0∨8<d
  ·have he:rootsE ps n d=8:=by unfold rootsE;rw[if_neg h0,if_pos hd]
   rw[he];refine(wl po n c xl xh d w (.pointer (some (A 7))) hd (fun W hb=>(hS.below hb ae).cell 7 (by omega)) hC').mono ?_;rintro e w' ⟨rfl,hb⟩;exact⟨_,_,rfl,aR.one 7 (by omega),hb,.inl ⟨by decide,rfl⟩⟩
  ·have he:rootsE ps n d=0:=by unfold rootsE;rw[if_neg h0,if_neg hd]
   rw[he];have hn1:=(dR h0').1
   obtain⟨a,rfl⟩:∃a,po=some a:=by
    rcases h with h|⟨g,off,e,_⟩
    ·omega
    ·exact⟨_,e⟩
   refine(xZ (some a) n c xl xh ps d w (by omega) (by omega) hC' (fun W hb=>Da a n c ps W (h.below hb) hn)).mono ?_;rintro e w' ⟨b1,b2,b3,qo,qc,rfl,p1,p2,p3,k1,k2,k3,ho,hb⟩;exact⟨_,_,rfl,aR.nil,hb,.inr ⟨rfl,b1,b2,b3,qo,qc,rfl,p1,p2,p3,k1,k2,k3,ho⟩⟩
end
section
open Go.RowKit Go.Shelf
theorem oV (W:World) (a b:Value) (t:TypeId):∀j u,[a,b][j]?=some u→(W.alloc (.cells #[a,b] t)).cell? (Addr.add ⟨W.heap.size,0,none⟩ j)=some u:=by
 intro j u hj
 match j,hj with
 |0,hj=>simp at hj;subst hj;simp[Addr.add]
 |1,hj=>simp at hj;subst hj;simp[Addr.add]
 |j+2,hj=>simp at hj
def dr (l:List (Nat×Nat)) (b:Int):List (Nat×Nat):=if 0<b∧b<(l.length:Int) then l.take b.toNat else l
theorem rg {n:Nat} {P:Program} {g:Operand} {ps:Array Tmp} {assign body:Code} {Q:Exit→Act→World→Prop} {a:Act} {w:World} (h1:1≤n) {gf:Nat} {lb:Array Value} (hg:a.eval g= .func (.func gf) #[] lb) (eg:∀args w,(callFunc gf args).run P w= .ok (.enter gf args) w)
  {Kp:World→World→Prop} {S Sp:List (Nat×Nat)→Prop} {N:Nat} {w0:World} (hseq:SeqStopsK Fence.wide (n-1) P gf lb sI Kp S Sp N w0)
  (hKt:∀{A B C:World},Kp A B→Kp B C→Kp A C) (hKb:∀(W:World) (l:Nat) (o o':Obj),w.heap.size≤l→W.heap[l]?=some o→o.isCells=false→o.isWalk=false→Kp W (W.putObj l o')) (hb0:Below w0.heap.size w0 w) (hps:ps.size=1)
  (I:List (Nat×Nat)→World→Prop) (Ix:Code→List (Nat×Nat)→World→Prop) (hI:OwnFrom w.heap.size I) (hIx:∀c,OwnFrom w.heap.size (Ix c)) (h0:I [] w) (hKa:∀pre W o,I pre W→Kp W (W.alloc o)) (p q:Tmp) (t:TypeId)
  (hassign:∀(l:Nat) (x:Nat×Nat) (W:World) (K:Act→World→Prop),K {tmps:=(a.tmps.setIfInBounds p (gF x.1 x.2)).setIfInBounds q (.pointer (some ⟨W.heap.size,0,none⟩)),defers:=[]} (W.alloc (.cells #[fV x.1,fV x.2] t))→
    assign.wpIn (Fence.wide.inRound l) (n-1-1) P (Exit.then K (fun _ _ _=>False)) {tmps:=(ps.zip (sI x)).foldl (fun t (p,v)=>t.setIfInBounds p v) a.tmps,defers:=[]} W)
  (hbody:∀(l:Nat) (pre:List (Nat×Nat)) (x:Nat×Nat) (Bx:Nat) (W:World),I pre W→W.heap[Bx]?=some (.cells #[fV x.1,fV x.2] t (0,0))→pre.length<N→body.wpIn (Fence.wide.inRound l) (n-1-1) P (ownPostG w.heap.size Kp I Ix (pre++[x]) W) {tmps:=(a.tmps.setIfInBounds p (gF x.1 x.2)).setIfInBounds q (.pointer (some ⟨Bx,0,none⟩)),defers:=[]} W)
  (hdone:∀(D:Nat) (xs:List (Nat×Nat)) (W:World),w.heap.size≤D→S xs→I xs W→W.heap[D]?=some (.deferred (some []))→Q .normal {a with defers:={target:= .collected D,args:=#[]}::a.defers} W)
  (hstop:∀(D:Nat) (c:Code) (pre:List (Nat×Nat)) (W:World),w.heap.size≤D→Sp pre→Ix c pre W→W.heap[D]?=some (.deferred (some []))→c.wpIn Fence.wide n P Q {a with defers:={target:= .collected D,args:=#[]}::a.defers} W):
  (Code.rangeFunc g ps assign body).wpIn Fence.wide n P Q a w:=by
 refine wpIn_rangeFunc_ownH rfl h1 hg trivial eg hseq hKt hKb hb0 (fun x=>by rw[hps];rfl) I Ix hI hIx h0
  (fun x a' W=>∃Bx,W.heap[Bx]?=some (.cells #[fV x.1,fV x.2] t (0,0))∧a'={tmps:=(a.tmps.setIfInBounds p (gF x.1 x.2)).setIfInBounds q (.pointer (some ⟨Bx,0,none⟩)),defers:=[]})
  (fun x a'=>?_) ?_ ?_ hdone hstop
 ·rintro _ X Y row ⟨Bx,hx,e⟩ hgr hr;refine⟨Bx,(hgr.block Bx (ag hx) (fun er=>?_)).trans hx,e⟩;obtain⟨-,o,ho,hc⟩:=hr Bx er.symm;rw[hx] at ho
  cases ho
  cases hc
 ·intro l pre x W K hi hK;exact hassign l x W K (hK _ _ ((KeepsOthers.alloc _ _).from _) (hKa pre W _ hi) (hI.alloc _ hi) ⟨W.heap.size,af W _,rfl⟩)
 ·rintro l pre x a' W hl-hi ⟨Bx,hx,rfl⟩ hlen;exact hbody l pre x Bx W hi hx hlen
theorem uk {w2 w1:World} {n0 B:Nat} {v v':Value} {k:Nat} {xs:List Value} {tmp:Obj} (hv:Boxed w2 B 41 v) (hrow:w2.ownsRow n0 33 2 v k xs) (hgrow:(w2.alloc tmp).grownBy w1 v.ownBlock):bU w2 (w1.setCell ⟨B,0,none⟩ v'):=by
 have g1:=World.grownBy_alloc w2 tmp none;have g3:=grownBy_setCell' w1 B v';refine⟨Nat.le_trans g1.size (Nat.le_trans hgrow.size g3.size),g3.os.trans (hgrow.os.trans g1.os),g3.tape.trans (hgrow.tape.trans g1.tape),g3.output.trans (hgrow.output.trans g1.output),fun b x t f e h1 h2=>?_⟩;have e1:=(g1.block b (ag e) (by simp)).trans e
 have e2:w1.heap[b]?=some (.cells x t f):=by
  refine(hgrow.block b (ag e1) (fun er=>?_)).trans e1;rcases hrow.2 with⟨rfl,_⟩|⟨g,cap,cur,rfl,_,hgb,_⟩
  ·simp[Value.ownBlock] at er
  ·obtain rfl:b=g:=by simpa[Value.ownBlock] using er
   rw[e] at hgb
   cases hgb
   exact h1 rfl
 refine(g3.block b (ag e2) (fun er=>?_)).trans e2;obtain rfl:b=B:=by simpa using er
 rw[show w2.heap[b]?=_ from hv] at e
 cases e
 exact h2 rfl
theorem vZ {w2 w1:World} {n0 B B':Nat} {v v' u:Value} {k:Nat} {xs:List Value} {tmp:Obj} (hrow:w2.ownsRow n0 33 2 v k xs) (hgrow:(w2.alloc tmp).grownBy w1 v.ownBlock) (hu:Boxed w2 B' 41 u) (hne:B'≠B):Boxed (w1.setCell ⟨B,0,none⟩ v') B' 41 u:=
 ((hu.alloc tmp).kept hgrow (hu.not_row (by decide) hrow)).other hne v'
theorem DE {w2 w1:World} {n0 n1 B:Nat} {v v' u:Value} {k m:Nat} {xs ys:List Value} {tmp:Obj} (hv:Boxed w2 B 41 v) (hrow:w2.ownsRow n1 33 2 v k xs) (hgrow:(w2.alloc tmp).grownBy w1 v.ownBlock) (hu:w2.ownsRow n0 33 2 u m ys) (hlt:∀g,u.ownBlock=some g→g<n1):(w1.setCell ⟨B,0,none⟩ v').ownsRow n0 33 2 u m ys:=by
 have hv1:Boxed w1 B _ v:=(hv.alloc tmp).kept hgrow (hv.not_row (by decide) hrow)
 have hu1:w1.ownsRow n0 33 2 u m ys:=by
  refine(hu.alloc tmp).kept hgrow ?_;rcases hu.2 with⟨rfl,_⟩|⟨g,cap,cur,rfl,hg,hgb,_⟩
  ·exact .inl rfl
  ·refine .inr fun er=>?_
   have h1:=hlt g rfl;rcases hrow.2 with⟨rfl,_⟩|⟨g',cap',cur',rfl,hg',hgb',_⟩
   ·simp[Value.ownBlock] at er
   ·simp[Value.ownBlock] at er;omega
 exact hu1.kept (grownBy_setCell' w1 B v') (.inr (hv1.not_row (by decide) hu1).symm)
theorem yO {β:Type} (n0 e size:Nat) (u:Value) (m:Nat) (ys:List Value):Own (fun(_:β) W=>W.ownsRow n0 e size u m ys):=by
 intro s X Y row hr hg hrow;refine hr.kept hg ?_;rcases hr.2 with⟨rfl,_⟩|⟨g,cap,cur,rfl,_,hgb,_⟩
 ·exact .inl rfl
 ·refine .inr fun e'=>?_
  obtain⟨o,ho,hc⟩:=hrow g (by simpa[Value.ownBlock] using e'.symm);rw[hgb] at ho;cases ho;cases hc
theorem vT {β:Type} {B D:Nat} {o:Obj} (hD:D<B):OwnFrom B (fun(_:β) W=>W.heap[D]?=some o):=by
 intro s X Y row h hg hrow;exact(hg.block D (ag h) (fun e=>by have:=(hrow D e.symm).1;omega)).trans h
theorem BM {L:List (Nat×Nat)} {stop:Int} (h:∀k:Nat,1≤k→k≤L.length→(k:Int)≠stop):dr L stop=L:=by
 unfold dr;split
 ·rename_i hc
  exact absurd (by omega) (h stop.toNat (by omega) (by omega))
 ·rfl
theorem CL {L pre:List (Nat×Nat)} {stop:Int} (hp:pre<+:L) (h:(pre.length:Int)=stop) (h1:1≤pre.length):dr L stop=pre:=by
 have hl:=hp.length_le;have e:=List.prefix_iff_eq_take.1 hp;unfold dr;split
 ·rw[show stop.toNat=pre.length by omega];exact e.symm
 ·rename_i hc
  rw[show pre.length=L.length by omega,List.take_length] at e;exact e.symm
end
section
open Go.RowKit Go.Shelf
attribute [local go_sem] av
theorem A1 (ps:Nat→Nat) (n:Nat) (d:Int) (l h:Nat):(df ps n d l h).length≤256:=by
 unfold df;split
 ·rename_i he
  have hd:¬(d<0∨8<d):=by
   intro hd;unfold rootsE at he;by_cases hr:rightN ps n≠0
   ·rw[if_pos hr] at he;exact hr he
   ·rw[if_neg hr,if_pos hd] at he;cases he
  have:=ig ps n d.toNat l h;have h2:2^d.toNat≤2^8:=Nat.pow_le_pow_right (by decide) (by omega);have h3:2^8=256:=by decide
  omega
 ·exact Nat.zero_le _
theorem db (W:World) (g i:Nat) (v:Value):W.grownBy (W.setCell ⟨g,i,none⟩ v) (some g):=
 ⟨rfl,rfl,rfl,(KeepsWalks.setCell W _ v).size,fun k _ hk=>Below.heap_setCell _ _ _ k (fun e=>hk (by rw[e]))⟩
theorem pQ {A B C:World} {g:Option Nat} (h:A.grownBy B g) (k:B.grownBy C g):A.grownBy C g:=
 ⟨k.os.trans h.os,k.tape.trans h.tape,k.output.trans h.output,Nat.le_trans h.size k.size,fun i hi hg=>(k.block i (Nat.lt_of_lt_of_le hi h.size) hg).trans (h.block i hi hg)⟩
theorem vM {w A B:World} {g:Nat} (hb:Below w.heap.size w A) (h:A.grownBy B (some g)) (hg:w.heap.size≤g):Below w.heap.size w B:=
 hb.grown h hb.size (fun k e=>by cases e;exact hg)
def Row (W:World) (g n:Nat):Prop:=∃cur,W.heap[g]?=some (.cells cur 65 (0,0))∧n≤cur.size
theorem Row.cell {W:World} {g n:Nat} (h:Row W g n) {i:Nat} (hi:i<n):∃u,W.cell? ⟨g,i,none⟩=some u∧W.frozen? ⟨g,i,none⟩=false:=by
 obtain⟨cur,hh,hc⟩:=h;refine⟨cur[i]'(by omega),?_,?_⟩
 ·rw[bf hh];exact Array.getElem?_eq_getElem (by omega)
 ·simp[World.frozen?,hh]
theorem Row.set {W:World} {g n:Nat} (h:Row W g n) (i:Nat) (v:Value):Row (W.setCell ⟨g,i,none⟩ v) g n:=by
 obtain⟨cur,hh,hc⟩:=h;obtain⟨hlt,hk⟩:=Array.getElem?_eq_some_iff.1 hh;refine⟨cur.setIfInBounds i v,?_,by simpa using hc⟩
 show(W.heap.modify g _)[g]?=_
 rw[Array.getElem?_eq_getElem (by rw[Array.size_modify];exact hlt),Array.getElem_modify_self,hk]
 rfl
theorem Row.below {W W':World} {g n:Nat} (h:Row W g n) (hb:Below W.heap.size W W'):Row W' g n:=by
 obtain⟨cur,hh,hc⟩:=h;exact⟨cur,aa hh hb,hc⟩
theorem Row.of_owns {W:World} {v:Value} {n B:Nat} {xs:List Value} (h:W.ownsRow B 65 1 v n xs):n=0∨∃g c,v= .slice (some ⟨g,0,none⟩) n c∧B≤g∧Row W g n:=by
 obtain⟨_,h2⟩:=h;rcases h2 with⟨rfl,h0⟩|⟨g,cap,cur,rfl,hg,hh,hn,hcap,hs,ht⟩
 ·exact .inl h0
 ·exact .inr ⟨g,cap,rfl,hg,cur,hh,by omega⟩
theorem tm (A:Nat→Addr) (ao:Option Addr) (n c:Nat) (xl xh al ah r3:Nat) (d stop:Int) (w:World) (fs:List Value) (hn:n*8≤140737488355328)
  (hf:∀W,Below w.heap.size w W→ax 52 #[.slice ao n c] W fun e w'=>∃bo bc,e= .returned (.slice bo n bc)∧w'.ownsRow W.heap.size 65 1 (.slice bo n bc) n fs∧Below W.heap.size W w')
  (hx:∀W,Below w.heap.size w W→aw 40 #[gU xl xh] W (gF al ah))
  (hR:∀W bo bc,Below w.heap.size w W→W.ownsRow w.heap.size 65 1 (.slice bo n bc) n fs→ax 53 #[.slice bo n bc,gF al ah,iV d] W fun e w'=>∃v,e= .returned (.tuple #[.nilFunc,v])∧aR A w' v r3 ⟨#[]⟩∧Below W.heap.size W w')
  (hc:∀W v,Below w.heap.size w W→aR A W v r3 ⟨#[]⟩→aw 49 #[v] W (.tuple #[iV (r3:Int),.string ⟨#[]⟩])):
  aw 23 #[.slice ao n c,gU xl xh,iV d,iV stop] w (.tuple #[.slice none 0 0,.slice none 0 0,iV (r3:Int)]):=by
 have hnf:=fun(w:World)=>Dx (P:=Tryz.prog) w 82 Tryz.underlying82
 have HF:=hid hf;have HX:=hid hx;have HR:=hid hR;have HC:=hid hc;clear hf hx hR hc;go_enter Tryz.func23,Tryz.ntmps23;go_wp2_with fail;have hW:Below w.heap.size w ((w.alloc (.cells #[nV xl,nV xh] 33)).alloc (.cells #[iV stop] 3)):=aJ.alloc (by simp) _;have B1:=ai (af w (.cells #[nV xl,nV xh] 33)) (.cells #[iV stop] 3);generalize((w.alloc (.cells #[nV xl,nV xh] 33)).alloc (.cells #[iV stop] 3))=W1 at*;refine (HF.out _ hW).mono ?_;rintro e w1 ⟨bo,bc,rfl,ho,hb1⟩;have HB:Hid (Below w.heap.size w w1):=hW.trans (hb1.mono hW.size);have K1:=hid (aa B1 hb1);have HO:Hid (w1.ownsRow w.heap.size 65 1 (.slice bo n bc) n fs):=aH ho aK hW.size;obtain⟨x0,x1,-,-⟩:=aj K1.out;have lx:=ag K1.out;clear hW hb1 HF B1 ho;go_wp2_with fail;refine (HX.out _ HB.out).mono ?_;rintro e w2 ⟨rfl,hb2⟩;have HB2:Hid (Below w.heap.size w w2):=HB.out.trans (hb2.mono HB.out.size);have HO:Hid (w2.ownsRow w.heap.size 65 1 (.slice bo n bc) n fs):=aH HO.out hb2 ae;clear hb2 HB HX x0 x1 lx K1;go_wp2_with fail;refine (HR.out _ _ _ HB2.out HO.out).mono ?_;rintro e w3 ⟨v,rfl,hE,hb3⟩;have HB3:Hid (Below w.heap.size w w3):=HB2.out.trans (hb3.mono HB2.out.size);have HO:Hid (w3.ownsRow w.heap.size 65 1 (.slice bo n bc) n fs):=aH HO.out hb3 ae;have HE:=hid hE;clear hb3 HB2 HR hE;go_wp2_with fail;refine (HC.out _ _ HB3.out HE.out).mono ?_;rintro e w4 ⟨rfl,hb4⟩;have HB4:Hid (Below w.heap.size w w4):=HB3.out.trans (hb4.mono HB3.out.size);have HO:Hid (w4.ownsRow w.heap.size 65 1 (.slice bo n bc) n fs):=aH HO.out hb4 ae;clear hb4 HB3 HC HE;have hrow:=Row.of_owns HO.out;clear HO;rcases hrow with h0|⟨g,gc,e,hg,hr⟩
 ·have hn0:=h0;go_wp2_with fail
  go_loopw [16,38] (fun _ v wr=>∃i:Nat,i≤n∧v=iV (i:Int)∧Below w.heap.size w wr) (fun _ v _=>n-(intOf v).toNat)
  case atStart=>exact⟨0,Nat.zero_le _,rfl,HB4.out⟩
  case round=>
   obtain⟨i,hi1,rfl,hb⟩:=hrel;obtain rfl:i=n:=by omega
   clear HB4;go_wp2_with fail;refine bodyPost_ret (v:= .tuple #[.slice none 0 0,.slice none 0 0,iV (r3:Int)]) (by simp[results,Tryz.results23,go_sem]) rfl ?_;exact⟨rfl,hb⟩
 ·cases e
  have HRW:=hid hr;have HGL:=hid hg;clear hr hg;go_wp2_with fail
  go_loopw [16,38] (fun _ v wr=>∃i:Nat,i≤n∧v=iV (i:Int)∧Below w.heap.size w wr∧Row wr g n) (fun _ v _=>n-(intOf v).toNat)
  case atStart=>exact⟨0,Nat.zero_le _,rfl,HB4.out,HRW.out⟩
  case round=>
   obtain⟨i,hi1,rfl,hb,hr⟩:=hrel;clear HRW HB4;by_cases hin:i<n
   ·obtain⟨u,u1,u2⟩:=hr.cell hin;have HRW:=hid (hr.set i (fV 4619567317775286272));have HBW:Hid (Below w.heap.size w (wr.setCell ⟨g,i,none⟩ (fV 4619567317775286272))):=hb.setCell (p:=⟨g,i,none⟩) HGL.out _;clear hr hb;go_wp2_with fail;go_roundw
    case rel=>exact⟨i+1,by omega,by go_num,HBW.out,HRW.out⟩
    case measure=>simp[intOf];omega
   ·clear hr;go_wp2_with fail;refine bodyPost_ret (v:= .tuple #[.slice none 0 0,.slice none 0 0,iV (r3:Int)]) (by simp[results,Tryz.results23,go_sem]) rfl ?_;exact⟨rfl,hb⟩
end
end Go.Proofs.YtonhpkigoplmaaaGreatDoor
