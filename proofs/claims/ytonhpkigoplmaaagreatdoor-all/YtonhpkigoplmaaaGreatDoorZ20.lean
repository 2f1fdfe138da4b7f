import Derived.Test.YtonhpkigoplmaaaGreatDoorZ19
import Derived.Test.YtonhpkigoplmaaaGreatDoorZ15
set_option maxRecDepth 100000
set_option maxHeartbeats 40000000
namespace Go.Proofs.YtonhpkigoplmaaaGreatDoor
section
open Go.RowKit Go.Extern Ieee
def o6 (s:ByteArray) (a1 a2 b1 b2:ap):Nat×Nat×Nat×ByteArray:=
 if s.toList=[104,117,108,108] then refOpN 1 a1 a2 b1 b2
 else if s.toList=[109,101,101,116] then refOpN 2 a1 a2 b1 b2
 else if s.toList=[43] then refOpN 3 a1 a2 b1 b2
 else if s.toList=[45] then refOpN 4 a1 a2 b1 b2
 else if s.toList=[42] then refOpN 5 a1 a2 b1 b2
 else if s.toList=[47] then refOpN 6 a1 a2 b1 b2
 else(0,0,7,s)
theorem oq (s:ByteArray) (xl xh yl yh:Nat) (h1:xl<18446744073709551616) (h2:xh<18446744073709551616) (h3:yl<18446744073709551616) (h4:yh<18446744073709551616) (w:World) (al ah bl_ bh:Nat) (e1:al=(makeN xl xh).1) (e2:ah=(makeN xl xh).2.1) (e3:bl_=(makeN yl yh).1) (e4:bh=(makeN yl yh).2.1) (r:Nat×Nat×Nat×ByteArray) (hr:r=o6 s (plT al) (plT ah) (plT bl_) (plT bh)):
  aw 31 #[.string s,gU xl xh,gU yl yh] w (.tuple #[gU r.1 r.2.1,iV (r.2.2.1:Int),.string r.2.2.2]):=by
 unfold o6 at hr;have hO:=fun(k:Int) (h:r=refOpN k (plT al) (plT ah) (plT bl_) (plT bh)) (W:World)=>kh k xl xh yl yh W h1 h2 h3 h4 al ah bl_ bh e1 e2 e3 e4 r h
 by_cases c0:s.toList=[104,117,108,108]
 ·rw[if_pos c0] at hr;exact fI s xl xh yl yh 1 r w (.inl ⟨c0,rfl⟩) (hO 1 hr)
 rw[if_neg c0] at hr;by_cases c1:s.toList=[109,101,101,116]
 ·rw[if_pos c1] at hr;exact fI s xl xh yl yh 2 r w (.inr (.inl ⟨c1,rfl⟩)) (hO 2 hr)
 rw[if_neg c1] at hr;by_cases c2:s.toList=[43]
 ·rw[if_pos c2] at hr;exact fI s xl xh yl yh 3 r w (.inr (.inr (.inl ⟨c2,rfl⟩))) (hO 3 hr)
 rw[if_neg c2] at hr;by_cases c3:s.toList=[45]
 ·rw[if_pos c3] at hr;exact fI s xl xh yl yh 4 r w (.inr (.inr (.inr (.inl ⟨c3,rfl⟩)))) (hO 4 hr)
 rw[if_neg c3] at hr;by_cases c4:s.toList=[42]
 ·rw[if_pos c4] at hr;exact fI s xl xh yl yh 5 r w (.inr (.inr (.inr (.inr (.inl ⟨c4,rfl⟩))))) (hO 5 hr)
 rw[if_neg c4] at hr;by_cases c5:s.toList=[47]
 ·rw[if_pos c5] at hr;exact fI s xl xh yl yh 6 r w (.inr (.inr (.inr (.inr (.inr (⟨c5,rfl⟩)))))) (hO 6 hr)
 rw[if_neg c5] at hr;subst hr;exact uM s xl xh yl yh w ⟨c0,c1,c2,c3,c4,c5⟩
theorem Gn (A:Nat→Addr) {al ah bl_ bh:Nat} (i:Iv al ah) (j:Iv bl_ bh) (r:Nat×Nat×Nat×ByteArray) (hr:r=refOpN 1 (plT al) (plT ah) (plT bl_) (plT bh)):∀w,aE A w→ax 166 #[gF al ah,gF bl_ bh] w fun ev w'=>OpR A w r.1 r.2.1 r.2.2.1 r.2.2.2 ev w':=by
 intro w _;have hc:=ft A 1 i j r hr;rcases hc with⟨hk,-⟩|⟨hk,e3,es,h⟩|⟨hk,-⟩|⟨hk,-⟩|⟨hk,-⟩|⟨hk,-⟩|⟨hk,-⟩|⟨hk,-⟩|⟨h0,h1,h2,h3,h4,h5,h6,h7,-⟩<;>first|(rw[e3,es];exact tD A al ah bl_ bh _ _ w h)|omega
theorem Gs (A:Nat→Addr) {al ah bl_ bh:Nat} (i:Iv al ah) (j:Iv bl_ bh) (r:Nat×Nat×Nat×ByteArray) (hr:r=refOpN 2 (plT al) (plT ah) (plT bl_) (plT bh)):∀w,aE A w→ax 43 #[gF al ah,gF bl_ bh] w fun ev w'=>OpR A w r.1 r.2.1 r.2.2.1 r.2.2.2 ev w':=by
 have hc:=ft A 2 i j r hr;rcases hc with⟨hk,-⟩|⟨hk,-⟩|⟨hk,h⟩|⟨hk,-⟩|⟨hk,-⟩|⟨hk,-⟩|⟨hk,-⟩|⟨hk,-⟩|⟨h0,h1,h2,h3,h4,h5,h6,h7,-⟩<;>first|exact h|omega
theorem Fh (A:Nat→Addr) {al ah bl_ bh:Nat} (i:Iv al ah) (j:Iv bl_ bh) (r:Nat×Nat×Nat×ByteArray) (hr:r=refOpN 3 (plT al) (plT ah) (plT bl_) (plT bh)):∀w,aE A w→ax 44 #[gF al ah,gF bl_ bh] w fun ev w'=>OpR A w r.1 r.2.1 r.2.2.1 r.2.2.2 ev w':=by
 have hc:=ft A 3 i j r hr;rcases hc with⟨hk,-⟩|⟨hk,-⟩|⟨hk,-⟩|⟨hk,h⟩|⟨hk,-⟩|⟨hk,-⟩|⟨hk,-⟩|⟨hk,-⟩|⟨h0,h1,h2,h3,h4,h5,h6,h7,-⟩<;>first|exact h|omega
theorem Hq (A:Nat→Addr) {al ah bl_ bh:Nat} (i:Iv al ah) (j:Iv bl_ bh) (r:Nat×Nat×Nat×ByteArray) (hr:r=refOpN 4 (plT al) (plT ah) (plT bl_) (plT bh)):∀w,aE A w→ax 45 #[gF al ah,gF bl_ bh] w fun ev w'=>OpR A w r.1 r.2.1 r.2.2.1 r.2.2.2 ev w':=by
 have hc:=ft A 4 i j r hr;rcases hc with⟨hk,-⟩|⟨hk,-⟩|⟨hk,-⟩|⟨hk,-⟩|⟨hk,h⟩|⟨hk,-⟩|⟨hk,-⟩|⟨hk,-⟩|⟨h0,h1,h2,h3,h4,h5,h6,h7,-⟩<;>first|exact h|omega
theorem Ff (A:Nat→Addr) {al ah bl_ bh:Nat} (i:Iv al ah) (j:Iv bl_ bh) (r:Nat×Nat×Nat×ByteArray) (hr:r=refOpN 5 (plT al) (plT ah) (plT bl_) (plT bh)):∀w,aE A w→ax 46 #[gF al ah,gF bl_ bh] w fun ev w'=>OpR A w r.1 r.2.1 r.2.2.1 r.2.2.2 ev w':=by
 have hc:=ft A 5 i j r hr;rcases hc with⟨hk,-⟩|⟨hk,-⟩|⟨hk,-⟩|⟨hk,-⟩|⟨hk,-⟩|⟨hk,h⟩|⟨hk,-⟩|⟨hk,-⟩|⟨h0,h1,h2,h3,h4,h5,h6,h7,-⟩<;>first|exact h|omega
theorem G9 (A:Nat→Addr) {al ah bl_ bh:Nat} (i:Iv al ah) (j:Iv bl_ bh) (r:Nat×Nat×Nat×ByteArray) (hr:r=refOpN 6 (plT al) (plT ah) (plT bl_) (plT bh)):∀w,aE A w→ax 47 #[gF al ah,gF bl_ bh] w fun ev w'=>OpR A w r.1 r.2.1 r.2.2.1 r.2.2.2 ev w':=by
 have hc:=ft A 6 i j r hr;rcases hc with⟨hk,-⟩|⟨hk,-⟩|⟨hk,-⟩|⟨hk,-⟩|⟨hk,-⟩|⟨hk,-⟩|⟨hk,h⟩|⟨hk,-⟩|⟨h0,h1,h2,h3,h4,h5,h6,h7,-⟩<;>first|exact h|omega
theorem Bv (A:Nat→Addr) (s:ByteArray) {al ah bl_ bh:Nat} (i:Iv al ah) (j:Iv bl_ bh) (r:Nat×Nat×Nat×ByteArray) (hr:r=o6 s (plT al) (plT ah) (plT bl_) (plT bh)) (w:World) (hS:aE A w):
  ax 71 #[.string s,gF al ah,gF bl_ bh] w fun ev w'=>OpR A w r.1 r.2.1 r.2.2.1 r.2.2.2 ev w':=by
 unfold o6 at hr;refine Cc A s al ah bl_ bh r w hS (fun c=>Fh A i j r (by simpa[c] using hr)) (fun c=>Hq A i j r (by simpa[c] using hr)) (fun c=>Ff A i j r (by simpa[c] using hr)) (fun c=>G9 A i j r (by simpa[c] using hr)) (fun c=>Gn A i j r (by simpa[c] using hr)) (fun c=>Gs A i j r (by simpa[c] using hr)) (fun c2 c3 c4 c5 c0 c1=>by simpa[c0,c1,c2,c3,c4,c5] using hr)
theorem mC (A:Nat→Addr) (s:ByteArray) (xl xh yl yh:Nat) (h1:xl<18446744073709551616) (h2:xh<18446744073709551616) (h3:yl<18446744073709551616) (h4:yh<18446744073709551616) (w:World) (hS:aE A w) (al ah bl_ bh:Nat) (e1:al=(makeN xl xh).1) (e2:ah=(makeN xl xh).2.1) (e3:bl_=(makeN yl yh).1) (e4:bh=(makeN yl yh).2.1) (r:Nat×Nat×Nat×ByteArray) (hr:r=o6 s (plT al) (plT ah) (plT bl_) (plT bh)):
  aw 30 #[.string s,gU xl xh,gU yl yh] w (.tuple #[gU r.1 r.2.1,iV (r.2.2.1:Int),.string r.2.2.2]):=by
 have iA:Iv al ah:=by rw[e1,e2];exact dZ xl xh h1 h2
 have iB:Iv bl_ bh:=by rw[e3,e4];exact dZ yl yh h3 h4
 refine tv A s xl xh yl yh al ah bl_ bh _ _ _ _ w hS ?_ ?_ (Bv A s iA iB r hr)
 ·intro w hS;rw[e1,e2];exact gh A xl xh w h1 h2 hS
 ·intro w hS;rw[e3,e4];exact gh A yl yh w h3 h4 hS
end
section
open Go.RowKit
theorem G1 (A:Nat→Addr) (z:bW) (ao:Option Addr) (n c:Nat) (w:World) (hn:n≤1466015503701) (hS:aE A w)
  (hz:n=0∨∃g off,ao=some ⟨g,off,none⟩∧g<w.heap.size∧z.at w g off n) (hx:∀i,i<n→z.xl i<18446744073709551616∧z.xh i<18446744073709551616∧z.yl i<18446744073709551616∧z.yh i<18446744073709551616):
  aw 5 #[.slice ao n c] w (.bool true):=by
 have HU:=mY A z ao n c 3 3 w hn hS hz (fun i hi h1 h2 W hW=>by
  have hk:z.k i=3:=by omega
  unfold bW.val;rw[hk];obtain⟨x1,x2,x3,x4⟩:=hx i hi;exact p6 A _ _ _ _ _ _ _ _ _ _ _ _ _ _ W hW (fun W hS=>mC A _ _ _ _ _ x1 x2 x3 x4 W hS _ _ _ _ rfl rfl rfl rfl _ rfl) (fun W=>oq _ _ _ _ _ x1 x2 x3 x4 W _ _ _ _ rfl rfl rfl rfl _ rfl))
 clear hz hx hS hn;have HU:=hid HU;go_enter Tryz.func5,Tryz.ntmps5;go_wp2_with fail;refine Calls.mono HU.out ?_;rintro e w1 ⟨rfl,hb1⟩;clear HU;go_wp2
 go_ret
 exact⟨rfl,hb1⟩
end
section
open Go.RowKit Go.Extern
attribute [local go_sem] av
theorem rt {ps:Nat→Nat} {n:Nat} {x1 x2:ap} {j:Nat} (h:(hornN ps n x1 x2 j).2.2.1≠0):∀d,hornN ps n x1 x2 (j+d)=hornN ps n x1 x2 j
 |0=>rfl
 |d+1=>by
  show fR x1 x2 (posW (ps (n-2-(j+d)))) (hornN ps n x1 x2 (j+d))=_
  rw[rt h d];unfold fR;rw[if_pos h]
theorem aR.zero {A:Nat→Addr} {w:World} {v:Value} {s:ByteArray} (h:aR A w v 0 s):v= .nilIface:=by
 rcases h with⟨h,-⟩|⟨j,-,-,h,-⟩|⟨j,-,b,-,-,h⟩
 ·exact h
 ·omega
 ·omega
theorem Dy {a1 a2 b1 b2:ap} (h:(refOpN 3 a1 a2 b1 b2).2.2.1=0):(refOpN 3 a1 a2 b1 b2).2.2.2=⟨#[]⟩:=by
 have e:refOpN 3 a1 a2 b1 b2=aO (az (sumT a1 b1) (sumT a2 b2)) ⟨#[43]⟩:=rfl;rw[e,bP] at h⊢;rw[(pj h).2.2]
theorem tM {ps:Nat→Nat} {n:Nat} {x1 x2:ap}:∀j,(hornN ps n x1 x2 j).2.2.1=0→(hornN ps n x1 x2 j).2.2.2=⟨#[]⟩
 |0,_=>rfl
 |j+1,h=>by
  have e:hornN ps n x1 x2 (j+1)=fR x1 x2 (posW (ps (n-2-j))) (hornN ps n x1 x2 j):=rfl;have ih:=tM (ps:=ps) (n:=n) (x1:=x1) (x2:=x2) j;rw[e] at h⊢;generalize hornN ps n x1 x2 j=r at*;unfold fR at h⊢;by_cases hc:r.2.2.1≠0
  ·rw[if_pos hc] at h⊢;exact ih h
  ·rw[if_neg hc] at h⊢;by_cases hm:(refOpN 5 (plT r.1) (plT r.2.1) x1 x2).2.2.1≠0
   ·rw[if_pos hm] at h;exact absurd h hm
   ·rw[if_neg hm] at h⊢;exact Dy h
structure HSt (w W:World) (gr xl xh rl rh:Nat):Prop where
 k3:W.heap[w.heap.size]?=some (.cells #[fV xl,fV xh] 67 (0,0))
 k4:W.heap[w.heap.size+1]?=some (.cells #[fV 0,fV 0] 67 (0,0))
 kr:W.heap[gr]?=some (.cells #[fV rl,fV rh] 67 (0,0))
 hb:Below w.heap.size w W
 lr:w.heap.size+1<gr
theorem HSt.below {w W W':World} {gr xl xh rl rh:Nat} (m:HSt w W gr xl xh rl rh) (hb:Below W.heap.size W W'):HSt w W' gr xl xh rl rh:=⟨aa m.k3 hb,aa m.k4 hb,aa m.kr hb,m.hb.trans (hb.mono m.hb.size),m.lr⟩
theorem HSt.alloc {w W:World} {gr xl xh rl rh:Nat} (m:HSt w W gr xl xh rl rh) (o:Obj):HSt w (W.alloc o) gr xl xh rl rh:=m.below (aK.alloc ae o)
theorem HSt.drew {w W:World} {gr xl xh rl rh:Nat} (m:HSt w W gr xl xh rl rh):HSt w W.drew gr xl xh rl rh:=⟨m.k3,m.k4,m.kr,m.hb.drew,m.lr⟩
theorem HSt.set {w W:World} {gr xl xh rl rh:Nat} (m:HSt w W gr xl xh rl rh) (x y:Nat):HSt w ((W.setCell ⟨gr,0,none⟩ (fV x)).setCell ⟨gr,1,none⟩ (fV y)) gr xl xh x y:=by
 have e:=m.lr;have e3:w.heap.size≠gr:=by omega
 have e4:w.heap.size+1≠gr:=by omega
 have e5:w.heap.size≤gr:=by omega
 exact⟨aG (aG m.k3 e3) e3,aG (aG m.k4 e4) e4,aA m.kr,(m.hb.setCell (by exact e5) _).setCell (by exact e5) _,m.lr⟩
structure TSt (w W:World) (gr xl xh rl rh g9 m1 m2 g o q:Nat):Prop where
 m:HSt w W gr xl xh rl rh
 k9:W.heap[g9]?=some (.cells #[fV m1,fV m2] 67 (0,0))
 c:W.cell? ⟨g,o,none⟩=some (fV q)
 n9:gr<g9
 lg:g<w.heap.size
theorem TSt.below {w W W':World} {gr xl xh rl rh g9 m1 m2 g o q:Nat} (x:TSt w W gr xl xh rl rh g9 m1 m2 g o q) (hb:Below W.heap.size W W'):TSt w W' gr xl xh rl rh g9 m1 m2 g o q:=⟨x.m.below hb,aa x.k9 hb,by rw[hb.cell (by have:=x.m.hb.size;have:=x.lg;simp;omega)];exact x.c,x.n9,x.lg⟩
theorem TSt.drew {w W:World} {gr xl xh rl rh g9 m1 m2 g o q:Nat} (x:TSt w W gr xl xh rl rh g9 m1 m2 g o q):TSt w W.drew gr xl xh rl rh g9 m1 m2 g o q:=⟨x.m.drew,x.k9,x.c,x.n9,x.lg⟩
theorem TSt.set {w W:World} {gr xl xh rl rh g9 m1 m2 g o q:Nat} (x:TSt w W gr xl xh rl rh g9 m1 m2 g o q) (a b:Nat):TSt w ((W.setCell ⟨gr,0,none⟩ (fV a)).setCell ⟨gr,1,none⟩ (fV b)) gr xl xh a b g9 m1 m2 g o q:=by
 have e9:g9≠gr:=by have:=x.n9;omega
 have eg:g≠gr:=by have:=x.lg;have:=x.m.lr;omega
 exact⟨x.m.set a b,aG (aG x.k9 e9) e9,by rw[aS eg,aS eg];exact x.c,x.n9,x.lg⟩
theorem TSt.cells {w W:World} {gr xl xh rl rh g9 m1 m2 g o q:Nat} (x:TSt w W gr xl xh rl rh g9 m1 m2 g o q):W.cell? ⟨g9,0,none⟩=some (fV m1)∧W.cell? ⟨g9,1,none⟩=some (fV m2)∧W.cell? ⟨g,o,none⟩=some (fV q):=by
 obtain⟨a,b,-,-⟩:=aj x.k9;exact⟨a,b,x.c⟩
theorem aR.alloc' {A:Nat→Addr} {w:World} {v:Value} {k:Nat} {s:ByteArray} (h:aR A w v k s) (o:Obj):aR A (w.alloc o) v k s:=h.below (aK.alloc ae o)
theorem aR.set3 {A:Nat→Addr} {w:World} {v:Value} {k:Nat} {s:ByteArray} {g:Nat} {a b u u':Value} (h:aR A w v k s) (z:w.heap[g]?=some (.cells #[a,b] 67 (0,0))):aR A ((w.setCell ⟨g,0,none⟩ u).setCell ⟨g,1,none⟩ u') v k s:=
 (h.set (aZ.of z) (by decide)).set (aZ.of z).set (by decide)
structure zT (ps:Nat→Nat) (m:Nat) (xl xh:Nat) (H:Nat→Nat×Nat×Nat×ByteArray):Prop where
 step:∀t,t<m→H t=fR (plT xl) (plT xh) (posW (ps t)) (H (t+1))
 first:H m=(posW (ps m),posW (ps m),0,⟨#[]⟩)
 iv:∀t,t≤m→(H t).2.2.1=0→Iv (H t).1 (H t).2.1
 zero:∀t,t≤m→(H t).2.2.1≠0→(H t).1=0∧(H t).2.1=0
 stick:∀t,t≤m→(H t).2.2.1≠0→H 0=H t
 name:∀t,(H t).2.2.1=0→(H t).2.2.2=⟨#[]⟩
theorem A0 {ps:Nat→Nat} {m xl xh:Nat} (hr:rightN ps (m+1)=0) (hp:∀i,i<m+1→ps i<18446744073709551616):zT ps m xl xh (fun t=>hornN ps (m+1) (plT xl) (plT xh) (m-t)):=by
 refine⟨fun t ht=>?_,?_,fun t ht=>(pK hr hp (m-t) (by omega)).1,fun t ht=>(pK hr hp (m-t) (by omega)).2,fun t ht h=>?_,fun t=>tM (m-t)⟩
 ·show hornN ps (m+1) (plT xl) (plT xh) (m-t)=fR (plT xl) (plT xh) (posW (ps t)) (hornN ps (m+1) (plT xl) (plT xh) (m-(t+1)))
  have e:m-t=(m-(t+1))+1:=by omega
  rw[e]
  show fR (plT xl) (plT xh) (posW (ps (m+1-2-(m-(t+1))))) _=_
  rw[show m+1-2-(m-(t+1))=t by omega]
 ·show hornN ps (m+1) (plT xl) (plT xh) (m-m)=_
  rw[Nat.sub_self]
  rfl
 ·show hornN ps (m+1) (plT xl) (plT xh) (m-0)=hornN ps (m+1) (plT xl) (plT xh) (m-t)
  rw[show m-0=(m-t)+t by omega];exact rt h t
theorem uo {x1 x2:ap} {q:Nat} {r:Nat×Nat×Nat×ByteArray} (h0:r.2.2.1=0) (h:(refOpN 5 (plT r.1) (plT r.2.1) x1 x2).2.2.1≠0):fR x1 x2 q r=refOpN 5 (plT r.1) (plT r.2.1) x1 x2:=by
 unfold fR;rw[if_neg (by omega),if_pos h]
theorem sj {x1 x2:ap} {q:Nat} {r:Nat×Nat×Nat×ByteArray} (h0:r.2.2.1=0) (h:(refOpN 5 (plT r.1) (plT r.2.1) x1 x2).2.2.1=0):fR x1 x2 q r=refOpN 3 (plT (refOpN 5 (plT r.1) (plT r.2.1) x1 x2).1) (plT (refOpN 5 (plT r.1) (plT r.2.1) x1 x2).2.1) (plT q) (plT q):=by
 unfold fR;rw[if_neg (by omega),if_neg (by omega)]
theorem rr (A:Nat→Addr) (g off m c:Nat) (ps:Nat→Nat) (xl xh:Nat) (w:World) (hS:aE A w) (hg:g<w.heap.size) (hc:∀i,i<m+1→w.cell? ⟨g,off+i,none⟩=some (fV (ps i))) (hm9:m<9)
  (hP:∀i,i<m+1→∀W:World,aw 167 #[fV (ps i)] W (.agg #[fV (posW (ps i)),fV (posW (ps i))]))
  (hIP:∀i,i<m+1→Iv (posW (ps i)) (posW (ps i))) (ix:Iv xl xh) (H:Nat→Nat×Nat×Nat×ByteArray) (hH:zT ps m xl xh H):
  ax 134 #[.slice (some ⟨g,off,none⟩) (m+1) c,gF xl xh] w fun ev w'=>OpR A w (H 0).1 (H 0).2.1 (H 0).2.2.1 (H 0).2.2.2 ev w':=by
 have HC:=hid hc;have HG:=hid hg;have HS:=hid hS;have HP:=hid hP;have HIP:=hid hIP;have HIX:=hid ix;have HK:=hid hH;have h0:=hc m (by omega);clear hS hP hIP ix hH hc;go_enter Tryz.func134,Tryz.ntmps134;go_wp2_with fail;have B3:=ai (af w (.cells #[fV xl,fV xh] 67)) (.cells #[fV 0,fV 0] 67);have B4:=af (w.alloc (.cells #[fV xl,fV xh] 67)) (.cells #[fV 0,fV 0] 67);have hW:Below w.heap.size w ((w.alloc (.cells #[fV xl,fV xh] 67)).alloc (.cells #[fV 0,fV 0] 67)):=aJ.alloc (by simp) _;have hsz:w.heap.size+1<((w.alloc (.cells #[fV xl,fV xh] 67)).alloc (.cells #[fV 0,fV 0] 67)).heap.size:=by simp
 simp only[World.size_alloc] at B4;generalize((w.alloc (.cells #[fV xl,fV xh] 67)).alloc (.cells #[fV 0,fV 0] 67))=W1 at*;refine (HP.out m (by omega) _).mono ?_;rintro e w1 ⟨rfl,hb1⟩;have M1:Hid (HSt w (w1.alloc (.cells #[fV (posW (ps m)),fV (posW (ps m))] 67)) w1.heap.size xl xh (posW (ps m)) (posW (ps m))):=⟨ai (aa B3 hb1) _,ai (aa B4 hb1) _,af w1 _,(hW.trans (hb1.mono hW.size)).alloc (Nat.le_trans hW.size hb1.size) _,Nat.lt_of_lt_of_le hsz hb1.size⟩;clear B3 B4 hW hsz hb1 h0;go_wp2_with fail;generalize hgr:w1.heap.size=gr at*;generalize(w1.alloc (.cells #[fV (posW (ps m)),fV (posW (ps m))] 67))=W2 at*;clear hgr
 go_loopw [8,9,10] (fun x _ _ wr=>∃t:Nat,t≤m∧x=iV ((t:Int)-1)∧(H t).2.2.1=0∧HSt w wr gr xl xh (H t).1 (H t).2.1) (fun x _ _ _=>(intOf x+1).toNat)
 case atStart=>
  refine⟨m,Nat.le_refl _,by first|rfl|go_num,?_,?_⟩
  ·rw[HK.out.first]
  ·rw[HK.out.first];exact M1.out
 case round=>
  obtain⟨t,ht,rfl,hcode,hm⟩:=hrel;clear M1
  cases t with
  |zero=>
   have HM:=hid hm;have HCD:=hid hcode;obtain⟨x0,x1,-,-⟩:=aj hm.kr;obtain⟨z0,z1,z2,z3⟩:=aj hm.k4;clear hm hcode;go_wp2_with fail;obtain⟨p0,p1,-,-⟩:=aj (aA (a:=fV (H 0).1) (b:=fV (H 0).2.1) HM.out.k4);refine bodyPost_ret (v:= .tuple #[.agg #[fV (H 0).1,fV (H 0).2.1],.nilIface]) (by simp[results,Tryz.results134,go_sem,p0,p1]) rfl ?_;refine⟨_,rfl,?_,(HM.out.hb.setCell (by simp) _).setCell (by simp) _⟩;rw[HCD.out,HK.out.name 0 HCD.out];exact .nil
  |succ t=>
   have hct:wr.cell? ⟨g,off+t,none⟩=some (fV (ps t)):=by rw[hm.hb.cell (by exact HG.out)];exact HC.out t (by omega)
   have iv:=HK.out.iv (t+1) ht hcode;have HB:Hid ((refOpN 5 (plT (H (t+1)).1) (plT (H (t+1)).2.1) (plT xl) (plT xh)).2.2.1≠0→H t=refOpN 5 (plT (H (t+1)).1) (plT (H (t+1)).2.1) (plT xl) (plT xh)):=fun h=>(HK.out.step t (by omega)).trans (uo hcode h)
   have HGD:Hid ((refOpN 5 (plT (H (t+1)).1) (plT (H (t+1)).2.1) (plT xl) (plT xh)).2.2.1=0→H t=refOpN 3 (plT (refOpN 5 (plT (H (t+1)).1) (plT (H (t+1)).2.1) (plT xl) (plT xh)).1) (plT (refOpN 5 (plT (H (t+1)).1) (plT (H (t+1)).2.1) (plT xl) (plT xh)).2.1) (plT (posW (ps t))) (plT (posW (ps t)))):=fun h=>(HK.out.step t (by omega)).trans (sj hcode h)
   have HMUL:=hid (fun(W:World) (hb:Below w.heap.size w W)=>Ff A iv HIX.out _ rfl W (HS.out.below hb ae));have HIM:Hid ((refOpN 5 (plT (H (t+1)).1) (plT (H (t+1)).2.1) (plT xl) (plT xh)).2.2.1=0→Iv (refOpN 5 (plT (H (t+1)).1) (plT (H (t+1)).2.1) (plT xl) (plT xh)).1 (refOpN 5 (plT (H (t+1)).1) (plT (H (t+1)).2.1) (plT xl) (plT xh)).2.1):=wX;have HM:=hid hm;have HPT:=hid (HP.out t (by omega));have HIT:=hid (HIP.out t (by omega));obtain⟨x0,x1,-,-⟩:=aj hm.kr;obtain⟨y0,y1,-,-⟩:=aj hm.k3;clear hm hcode iv HP HIP HC;generalize refOpN 5 (plT (H (t+1)).1) (plT (H (t+1)).2.1) (plT xl) (plT xh)=rm at*;generalize(H (t+1)).1=rl at*;generalize(H (t+1)).2.1=rh at*;obtain⟨m1,m2,m3,ms⟩:=rm;simp only at HB HGD HMUL HIM;go_wp2_with fail;refine (HMUL.out _ HM.out.hb).mono ?_;intro e w3 hR;unfold OpR at hR;obtain⟨v,rfl,hE,hb3⟩:=hR;have M3:=hid (HM.out.below hb3);have HE:=hid hE;have hct3:w3.cell? ⟨g,off+t,none⟩=some (fV (ps t)):=by rw[hb3.cell (by have:=HM.out.hb.size;have:=HG.out;simp;omega)];exact hct
   clear hE hb3 hct x0 x1 y0 y1 HM HMUL
   have HF:Hid (m3≠0→(H 0).1=0∧(H 0).2.1=0∧(H 0).2.2.1=m3∧(H 0).2.2.2=ms):=fun h=>by
    have e:=HB.out h;have hc:(H t).2.2.1≠0:=by rw[e];exact h
    obtain⟨z1,z2⟩:=HK.out.zero t (by omega) hc;rw[HK.out.stick t (by omega) hc];exact⟨z1,z2,by rw[e],by rw[e]⟩
   by_cases hz:m3=0
   ·subst hz;obtain rfl:=HE.out.zero;have HGE:=HGD.out rfl
    have hfin:(H t).2.2.1≠0→(H 0).1=0∧(H 0).2.1=0∧(H 0).2.2.1=(H t).2.2.1∧(H 0).2.2.2=(H t).2.2.2:=fun h=>by
     obtain⟨z1,z2⟩:=HK.out.zero t (by omega) h;rw[HK.out.stick t (by omega) h];exact⟨z1,z2,rfl,rfl⟩
    have HADD:=hid (fun(W:World) (hb:Below w.heap.size w W)=>Fh A (HIM.out rfl) HIT.out _ HGE W (HS.out.below hb ae));have HFN:=hid hfin;have T3:Hid (TSt w (w3.alloc (.cells #[fV m1,fV m2] 67)) gr xl xh rl rh w3.heap.size m1 m2 g (off+t) (ps t)):=⟨M3.out.alloc _,af w3 _,by rw[World.cell?_of_block (Below.heap_alloc _ _ _ (by have:=M3.out.hb.size;have:=HG.out;simp;omega))];exact hct3,ag M3.out.kr,HG.out⟩;clear HGE hfin hct3 HF HB HGD HIM HIT M3 HE;generalize posW (ps t)=q at*;generalize hHt:H t=ra at*;obtain⟨a1,a2,a3,as_⟩:=ra;simp only at HADD HFN;have ti1:(t:Int)<(m:Int)+1:=by omega
    have ti2:t<m+1:=by omega
    have ti3:(0:Int)≤(t:Int):=by omega
    go_wp2_with fail;generalize w3.heap.size=g9 at*;generalize(w3.alloc (.cells #[fV m1,fV m2] 67))=W4 at*;have iN:=hid T3.out.drew;clear T3
    go_region_held3 (fun W=>W.cell? ⟨g9,0,none⟩=some (.float .f64 m1)∧W.cell? ⟨g9,1,none⟩=some (.float .f64 m2)∧W.cell? ⟨g,off+t,none⟩=some (.float .f64 (ps t))) (first|with_reducible exact iN.out.cells|with_reducible exact(iN.out.set _ _).cells)
     (first
       |(go_at_call 167;with_reducible (refine (HPT.out _).mono ?_);rintro e v4 ⟨rfl,hbk⟩
         have iN:=hid (iN.out.below hbk);clear hbk)
       |(go_at_call 44;with_reducible (refine (HADD.out _ ?_).mono ?_);(with_reducible exact iN.out.m.hb);(intro e v5 hR);(unfold OpR at hR);(obtain⟨v,rfl,hE,hbk⟩:=hR)
         have HE:=hid hE;have iN:=hid (iN.out.below hbk);obtain⟨zc0,zc1,zc2,zc3⟩:=aj iN.out.m.kr;clear hbk hE))
    have T5:Hid (TSt w ((v5.setCell ⟨gr,0,none⟩ (fV a1)).setCell ⟨gr,1,none⟩ (fV a2)) gr xl xh a1 a2 g9 m1 m2 g (off+t) (ps t)):=iN.out.set _ _;have HE5:Hid (aR A ((v5.setCell ⟨gr,0,none⟩ (fV a1)).setCell ⟨gr,1,none⟩ (fV a2)) v a3 as_):=HE.out.set3 iN.out.m.kr;clear iN HE;generalize((v5.setCell ⟨gr,0,none⟩ (fV a1)).setCell ⟨gr,1,none⟩ (fV a2))=W6 at*;by_cases hz:a3=0
    ·subst hz;obtain rfl:=HE5.out.zero;clear HADD;go_wp2_with fail;go_roundw
     case rel=>exact⟨t,by omega,by go_num,by rw[hHt],by rw[hHt];exact T5.out.m⟩
     case measure=>first|(simp[intOf];done)|(simp[intOf];omega)
    ·obtain⟨f1,f2,f3,f4⟩:=HFN.out hz;have hE:=HE5.out;have HE6:Hid (aR A ((W6.setCell ⟨w.heap.size+1,0,none⟩ (fV 0)).setCell ⟨w.heap.size+1,1,none⟩ (fV 0)) v a3 as_):=HE5.out.set3 T5.out.m.k4;obtain⟨z0,z1,z2,z3⟩:=aj T5.out.m.k4;have HFF:Hid ((H 0).1=0∧(H 0).2.1=0∧(H 0).2.2.1=a3∧(H 0).2.2.2=as_):=⟨f1,f2,f3,f4⟩;clear HFN HE5 HADD f1 f2 f3 f4;rcases hE with⟨rfl,rfl,rfl⟩|⟨k,hk,rfl,rfl,rfl⟩|⟨k,hk,b,hr,rfl,rfl⟩
     ·exact absurd rfl hz
     ·
      go_wp2_with fail;obtain⟨p0,p1,-,-⟩:=aj (aA (a:=fV 0) (b:=fV 0) T5.out.m.k4);refine bodyPost_ret (v:= .tuple #[gF 0 0,aL (A k)]) (by simp[results,Tryz.results134,go_sem,p0,p1]) rfl ?_;obtain⟨f1,f2,f3,f4⟩:=HFF.out;rw[f1,f2,f3,f4];exact⟨_,rfl,HE6.out,(T5.out.m.hb.setCell (by simp) _).setCell (by simp) _⟩
     ·
      go_wp2_with fail;obtain⟨p0,p1,-,-⟩:=aj (aA (a:=fV 0) (b:=fV 0) T5.out.m.k4);refine bodyPost_ret (v:= .tuple #[gF 0 0,.iface 136 (.pointer (some ⟨b,0,none⟩))]) (by simp[results,Tryz.results134,go_sem,p0,p1]) rfl ?_;obtain⟨f1,f2,f3,f4⟩:=HFF.out;rw[f1,f2,f3,f4];exact⟨_,rfl,HE6.out,(T5.out.m.hb.setCell (by simp) _).setCell (by simp) _⟩
   ·have hFF:=HF.out hz;have HFF:=hid hFF;have hE:=HE.out;have HE6:Hid (aR A (((w3.setCell ⟨w.heap.size+1,0,none⟩ (fV 0)).setCell ⟨w.heap.size+1,1,none⟩ (fV 0)).alloc (.cells #[fV m1,fV m2] 67)) v m3 ms):=(HE.out.set3 M3.out.k4).alloc' _;obtain⟨z0,z1,z2,z3⟩:=aj M3.out.k4;have lz:=ag M3.out.k4;clear HF HB HGD HIM HIT HPT HE hct3 hFF;rcases hE with⟨rfl,rfl,rfl⟩|⟨k,hk,rfl,rfl,rfl⟩|⟨k,hk,b,hr,rfl,rfl⟩
    ·exact absurd rfl hz
    ·
     go_wp2_with fail;obtain⟨p0,p1,-,-⟩:=aj (ai (aA (a:=fV 0) (b:=fV 0) M3.out.k4) (.cells #[fV m1,fV m2] 67));refine bodyPost_ret (v:= .tuple #[gF 0 0,aL (A k)]) (by simp[results,Tryz.results134,go_sem,p0,p1]) rfl ?_;obtain⟨f1,f2,f3,f4⟩:=HFF.out;rw[f1,f2,f3,f4];exact⟨_,rfl,HE6.out,((M3.out.hb.setCell (by simp) _).setCell (by simp) _).alloc (by have:=M3.out.hb.size;simp;omega) _⟩
    ·
     go_wp2_with fail;obtain⟨p0,p1,-,-⟩:=aj (ai (aA (a:=fV 0) (b:=fV 0) M3.out.k4) (.cells #[fV m1,fV m2] 67));refine bodyPost_ret (v:= .tuple #[gF 0 0,.iface 136 (.pointer (some ⟨b,0,none⟩))]) (by simp[results,Tryz.results134,go_sem,p0,p1]) rfl ?_;obtain⟨f1,f2,f3,f4⟩:=HFF.out;rw[f1,f2,f3,f4];exact⟨_,rfl,HE6.out,((M3.out.hb.setCell (by simp) _).setCell (by simp) _).alloc (by have:=M3.out.hb.size;simp;omega) _⟩
end
section
open Go.RowKit Go.Extern
attribute [local go_sem] av
theorem CE (A:Nat→Addr) (ao:Option Addr) (n c k:Nat) (xl xh:Nat) (w:World) (hk:k≠0)
  (hC:∀W,Below w.heap.size w W→ax 102 #[.slice ao n c] W fun e w'=>∃v,e= .returned v∧aR A w' v k ⟨#[]⟩∧Below W.heap.size W w'):
  ax 79 #[.slice ao n c,gF xl xh] w fun ev w'=>OpR A w 0 0 k ⟨#[]⟩ ev w':=by
 have HC:=hid hC;clear hC;go_enter Tryz.func79,Tryz.ntmps79;go_wp2_with fail;have B4:=af (w.alloc (.cells #[fV xl,fV xh] 67)) (.cells #[fV 0,fV 0] 67);have hW:Below w.heap.size w ((w.alloc (.cells #[fV xl,fV xh] 67)).alloc (.cells #[fV 0,fV 0] 67)):=aJ.alloc (by simp) _;simp only[World.size_alloc] at B4;generalize((w.alloc (.cells #[fV xl,fV xh] 67)).alloc (.cells #[fV 0,fV 0] 67))=W1 at*;refine (HC.out _ hW).mono ?_;rintro e w1 ⟨v,rfl,hE,hb1⟩;have HB:=hid (hW.trans (hb1.mono hW.size));have HK4:=hid (aa B4 hb1);have HE6:Hid (aR A ((w1.setCell ⟨w.heap.size+1,0,none⟩ (fV 0)).setCell ⟨w.heap.size+1,1,none⟩ (fV 0)) v k ⟨#[]⟩):=hE.set3 HK4.out;obtain⟨z0,z1,z2,z3⟩:=aj HK4.out;clear B4 hW hb1 HC;rcases hE with⟨rfl,rfl,-⟩|⟨k,hk,rfl,rfl,-⟩|⟨k,hk,b,hr,rfl,rfl⟩
 ·exact absurd rfl hk
 ·
  go_wp2_with fail;obtain⟨p0,p1,-,-⟩:=aj (aA (a:=fV 0) (b:=fV 0) HK4.out);refine bodyPost_ret (v:= .tuple #[gF 0 0,aL (A k)]) (by simp[results,Tryz.results79,go_sem,p0,p1]) rfl ?_;exact⟨_,rfl,HE6.out,(HB.out.setCell (by simp) _).setCell (by simp) _⟩
 ·
  go_wp2_with fail;obtain⟨p0,p1,-,-⟩:=aj (aA (a:=fV 0) (b:=fV 0) HK4.out);refine bodyPost_ret (v:= .tuple #[gF 0 0,.iface 136 (.pointer (some ⟨b,0,none⟩))]) (by simp[results,Tryz.results79,go_sem,p0,p1]) rfl ?_;exact⟨_,rfl,HE6.out,(HB.out.setCell (by simp) _).setCell (by simp) _⟩
theorem Af (A:Nat→Addr) (ao:Option Addr) (n c:Nat) (xl xh:Nat) (r1 r2 r3:Nat) (rs:ByteArray) (w:World)
  (hC:∀W,Below w.heap.size w W→aw 102 #[.slice ao n c] W .nilIface)
  (hH:∀W,Below w.heap.size w W→ax 134 #[.slice ao n c,gF xl xh] W fun ev w'=>OpR A W r1 r2 r3 rs ev w'):
  ax 79 #[.slice ao n c,gF xl xh] w fun ev w'=>OpR A w r1 r2 r3 rs ev w':=by
 have HC:=hid hC;have HH:=hid hH;clear hC hH;go_enter Tryz.func79,Tryz.ntmps79;go_wp2_with fail;have B3:=ai (af w (.cells #[fV xl,fV xh] 67)) (.cells #[fV 0,fV 0] 67);have B4:=af (w.alloc (.cells #[fV xl,fV xh] 67)) (.cells #[fV 0,fV 0] 67);have hW:Below w.heap.size w ((w.alloc (.cells #[fV xl,fV xh] 67)).alloc (.cells #[fV 0,fV 0] 67)):=aJ.alloc (by simp) _;simp only[World.size_alloc] at B4;generalize((w.alloc (.cells #[fV xl,fV xh] 67)).alloc (.cells #[fV 0,fV 0] 67))=W1 at*;refine (HC.out _ hW).mono ?_;rintro e w1 ⟨rfl,hb1⟩;have HB:=hid (hW.trans (hb1.mono hW.size));have HK4:=hid (aa B4 hb1);obtain⟨x0,x1,-,-⟩:=aj (aa B3 hb1);clear B3 B4 hW hb1 HC;go_wp2_with fail;refine (HH.out _ HB.out).mono ?_;intro e w2 hR;unfold OpR at hR;obtain⟨v,rfl,hE,hb2⟩:=hR;have HB2:=hid (HB.out.trans (hb2.mono HB.out.size));have HK5:=hid (aa HK4.out hb2);have HE:Hid (aR A ((w2.setCell ⟨w.heap.size+1,0,none⟩ (fV r1)).setCell ⟨w.heap.size+1,1,none⟩ (fV r2)) v r3 rs):=hE.set3 HK5.out;obtain⟨z0,z1,z2,z3⟩:=aj HK5.out;clear hE hb2 HB HK4 HH x0 x1;go_wp2_with fail;obtain⟨p0,p1,-,-⟩:=aj (aA (a:=fV r1) (b:=fV r2) HK5.out);refine bodyPost_ret (v:= .tuple #[gF r1 r2,v]) (by simp[results,Tryz.results79,go_sem,p0,p1]) rfl ?_;exact⟨_,rfl,HE.out,(HB2.out.setCell (by simp) _).setCell (by simp) _⟩
theorem Cp (A:Nat→Addr) (ao:Option Addr) (n c:Nat) (ps:Nat→Nat) (xl xh:Nat) (w:World) (hS:aE A w) (h:FlV w ao n ps) (hp:∀i,i<n→ps i<18446744073709551616) (hn:n*8≤140737488355328) (ix:Iv xl xh) (r:Nat×Nat×Nat×ByteArray) (hr:r=bE ps n (plT xl) (plT xh)):
  ax 79 #[.slice ao n c,gF xl xh] w fun ev w'=>OpR A w r.1 r.2.1 r.2.2.1 r.2.2.2 ev w':=by
 unfold bE at hr;have hC:=fun(W:World) (hb:Below w.heap.size w W)=>tP A ao n c ps W (hS.below hb ae) (h.below hb) hp hn
 by_cases h0:rightN ps n≠0
 ·rw[if_pos h0] at hr;subst hr;exact CE A ao n c _ xl xh w h0 hC
 ·rw[if_neg h0] at hr;have h0':rightN ps n=0:=Decidable.not_not.1 h0;obtain⟨hn1,hn9,hpl⟩:=dR h0';obtain⟨m,rfl⟩:∃m,n=m+1:=⟨n-1,by omega⟩;have hk:=A0 (xl:=xl) (xh:=xh) h0' hp;have e:r=(fun t=>hornN ps (m+1) (plT xl) (plT xh) (m-t)) 0:=hr;generalize(fun t=>hornN ps (m+1) (plT xl) (plT xh) (m-t))=H at*;subst e;refine Af A ao (m+1) c xl xh _ _ _ _ w ?_ ?_
  ·intro W hb;refine(hC W hb).mono ?_;rintro ev w' ⟨v,rfl,hE,hb'⟩;rw[h0'] at hE;exact⟨by rw[hE.zero],hb'⟩
  ·intro W hb;obtain⟨g,off,rfl,hg,hc⟩:=(h.below hb).resolve_left (by omega);exact rr A g off m c ps xl xh W (hS.below hb ae) hg hc (by omega) (fun i hi W=>rG (ps i) W (hp i hi) (hpl i hi)) (fun i hi=>kT (hp i hi) (hpl i hi)) ix H hk
end
section
open Go.RowKit Go.Extern Ieee
attribute [local go_sem] av
structure EPt (w W:World) (a b:Value):Prop where
 k0:W.heap[w.heap.size]?=some (.cells #[a,b] 33 (0,0))
 k2:W.heap[w.heap.size+1]?=some (.cells #[uV 0,uV 0] 33 (0,0))
 hb:Below w.heap.size w W
 sz:(w.heap.size+1+1)≤W.heap.size
theorem EPt.below {w W W':World} {a b:Value} (m:EPt w W a b) (hb:Below W.heap.size W W'):EPt w W' a b:=⟨aa m.k0 hb,aa m.k2 hb,m.hb.trans (hb.mono m.hb.size),Nat.le_trans m.sz hb.size⟩
theorem EPt.alloc {w W:World} {a b:Value} (m:EPt w W a b) (o:Obj):EPt w (W.alloc o) a b:=m.below (aK.alloc ae o)
theorem EPt.drew {w W:World} {a b:Value} (m:EPt w W a b):EPt w W.drew a b:=⟨m.k0,m.k2,m.hb.drew,m.sz⟩
theorem EPt.cells {w W:World} {a b:Value} (m:EPt w W a b):W.cell? ⟨w.heap.size,0,none⟩=some a∧W.cell? ⟨w.heap.size,1,none⟩=some b:=by
 obtain⟨x0,x1,-,-⟩:=aj m.k0;exact⟨x0,x1⟩
theorem EPt.set2 {w W:World} {a b:Value} {g:Nat} (m:EPt w W a b) (h:(w.heap.size+1+1)≤g) (x y:Value):EPt w ((W.setCell ⟨g,0,none⟩ x).setCell ⟨g,1,none⟩ y) a b:=by
 have e0:w.heap.size≠g:=by omega
 have e2:w.heap.size+1≠g:=by omega
 have e3:w.heap.size≤g:=by omega
 exact⟨aG (aG m.k0 e0) e0,aG (aG m.k2 e2) e2,(m.hb.setCell (by exact e3) _).setCell (by exact e3) _,by simp only[World.size_setCell];exact m.sz⟩
theorem uB (A:Nat→Addr) (ao:Option Addr) (n c:Nat) (ps:Nat→Nat) (xl xh al ah r1 r2 r3:Nat) (rs:ByteArray) (w:World) (hS:aE A w)
  (hf:∀W,Below w.heap.size w W→ax 52 #[.slice ao n c] W fun e w'=>∃bo bc,e= .returned (.slice bo n bc)∧FlV w' bo n ps∧Below W.heap.size W w')
  (hx:∀w,aE A w→aw 40 #[gU xl xh] w (gF al ah))
  (h:∀W bo bc,aE A W→FlV W bo n ps→ax 79 #[.slice bo n bc,gF al ah] W fun ev w'=>OpR A W r1 r2 r3 rs ev w'):
  aw 34 #[.slice ao n c,gU xl xh] w (.tuple #[gU r1 r2,iV (r3:Int),.string rs]):=by
 have HFL:=hid hf;have HX:=hid (fun(W:World) (hb:Below w.heap.size w W)=>hx W (hS.below hb ae));have HA:=hid (fun(W:World) (bo:Option Addr) (bc:Nat) (hb:Below w.heap.size w W) (hf:FlV W bo n ps)=>h W bo bc (hS.below hb ae) hf);have HBX:=hid (fun(W:World)=>gR r1 r2 W);have HCD:=hid (fun(W:World) (v:Value) (hb:Below w.heap.size w W) (he:aR A W v r3 rs)=>jK A v r3 rs W (hS.below hb ae) he);clear hf hx hS h;go_enter Tryz.func34,Tryz.ntmps34;go_wp2_with fail
 have m0:Hid (EPt w ((w.alloc (.cells #[nV xl,nV xh] 33)).alloc (.cells #[uV 0,uV 0] 33)) (nV xl) (nV xh)):=by
  have B0:=ai (af w (.cells #[nV xl,nV xh] 33)) (.cells #[uV 0,uV 0] 33);have B2:=af (w.alloc (.cells #[nV xl,nV xh] 33)) (.cells #[uV 0,uV 0] 33);simp only[World.size_alloc] at B2;exact⟨B0,B2,aJ.alloc (by simp) _,by simp⟩
 generalize((w.alloc (.cells #[nV xl,nV xh] 33)).alloc (.cells #[uV 0,uV 0] 33))=W2 at*
 go_cut [7,8] (fun s9 s10 wc=>∃g,s9= .pointer (some ⟨g,0,none⟩)∧EPt w wc (nV xl) (nV xh)∧a9 (w.heap.size+1+1) wc g r1 r2∧aR A wc s10 r3 rs)
 case first=>
  have iN:=hid m0.out.drew
  go_region_held3 (fun W=>W.cell? ⟨w.heap.size,0,none⟩=some (.int .u64 (xl:Int))∧W.cell? ⟨w.heap.size,1,none⟩=some (.int .u64 (xh:Int))) (first|with_reducible exact iN.out.cells|with_reducible exact(m0.out.alloc _).drew.cells|with_reducible exact(iN.out.alloc _).cells|with_reducible exact(iN.out.set2 zf.out.le _ _).cells)
   (first
     |(go_at_call 52;with_reducible (refine (HFL.out _ ?_).mono ?_);(with_reducible exact iN.out.hb);rintro e v0 ⟨bo,bc,rfl,hfl,hbk⟩
       have NF:=hid hfl;clear hfl;have iN:=hid (iN.out.below hbk);clear hbk)
     |(go_at_call 52;with_reducible (refine (HFL.out _ ?_).mono ?_);(with_reducible exact(m0.out.alloc _).drew.hb);rintro e v0 ⟨bo,bc,rfl,hfl,hbk⟩
       have zf:=hid ((a9.new m0.out.sz).drew.below hbk);have NF:=hid hfl;clear hfl;have iN:=hid ((m0.out.alloc _).drew.below hbk);clear hbk)
     |(go_at_call 40;with_reducible (refine (HX.out _ ?_).mono ?_);(with_reducible exact iN.out.hb);rintro e v1 ⟨rfl,hbk⟩
       try(have zf:Hid (a9 (w.heap.size+1+1) v1 _ 0 0):=zf.out.below hbk)
       have NF:=hid (NF.out.below hbk);have iN:=hid (iN.out.below hbk);clear hbk)
     |(go_at_call 40;with_reducible (refine (HX.out _ ?_).mono ?_);(with_reducible exact(iN.out.alloc _).hb);rintro e v1 ⟨rfl,hbk⟩
       have zf:=hid ((a9.new iN.out.sz).below hbk);have NF:=hid ((NF.out.below aJ).below hbk);have iN:=hid ((iN.out.alloc _).below hbk);clear hbk)
     |(go_at_call 79;with_reducible (refine (HA.out _ bo bc ?_ ?_).mono ?_);(with_reducible exact iN.out.hb);(exact NF.out);(intro e v2 h);(unfold OpR at h);(obtain⟨v,rfl,hE,hbk⟩:=h)
       try(have zf:Hid (a9 (w.heap.size+1+1) v2 _ 0 0):=zf.out.below hbk;obtain⟨zc0,zc1,zc2,zc3⟩:=aj zf.out.1)
       have HE:=hid hE;clear hE;have iN:=hid (iN.out.below hbk);clear hbk)
     |(go_at_call 79;with_reducible (refine (HA.out _ bo bc ?_ ?_).mono ?_);(with_reducible exact(iN.out.alloc _).hb);(exact(NF.out.below aJ));(intro e v2 h);(unfold OpR at h);(obtain⟨v,rfl,hE,hbk⟩:=h)
       have zf:=hid ((a9.new iN.out.sz).below hbk);obtain⟨zc0,zc1,zc2,zc3⟩:=aj zf.out.1;have HE:=hid hE;clear hE;have iN:=hid ((iN.out.alloc _).below hbk);clear hbk))
  all_goals(go_wp2_with fail;go_meet;refine⟨_,rfl,?_,?_,?_⟩)
  all_goals first|with_reducible exact iN.out.set2 zf.out.le _ _|with_reducible exact zf.out.same _ _|with_reducible exact HE.out.set2 zf.out|with_reducible exact iN.out.alloc _|with_reducible exact a9.new iN.out.sz|with_reducible exact HE.out.alloc _
 case rest=>
  clear HX HFL HA m0;obtain⟨gc,rfl,hP,hI,hE⟩:=hcut;have MP:=hid hP;have IC:=hid hI;have HE:=hid hE;clear hP hI hE;go_wp2_with fail;refine (HCD.out _ _ MP.out.hb HE.out).mono ?_;rintro e w7 ⟨rfl,hb7⟩;have IC7:=hid (IC.out.below hb7);have MP7:=hid (MP.out.below hb7);clear hb7 IC MP HE;obtain⟨c0,c1,-,-⟩:=aj IC7.out.1;go_wp2_with fail;refine (HBX.out _).mono ?_;rintro e w8 ⟨rfl,hb8⟩;have MP8:=hid (MP7.out.below hb8);clear hb8 MP7 IC7 c0 c1;obtain⟨d0,d1,d2,d3⟩:=aj MP8.out.k2;go_wp2_with fail;obtain⟨p0,p1,-,-⟩:=aj (aA (a:=nV r1) (b:=nV r2) MP8.out.k2);refine bodyPost_ret (v:= .tuple #[gU r1 r2,iV (r3:Int),.string rs]) (by simp[results,Tryz.results34,go_sem,p0,p1]) rfl ?_;exact⟨rfl,(MP8.out.hb.setCell (by simp) _).setCell (by simp) _⟩
theorem nT (A:Nat→Addr) (ao:Option Addr) (n c:Nat) (ps:Nat→Nat) (xl xh:Nat) (w:World) (hS:aE A w) (h:WdV w ao n ps) (hn:n*8≤140737488355328) (h1:xl<18446744073709551616) (h2:xh<18446744073709551616) (al ah:Nat) (e1:al=(makeN xl xh).1) (e2:ah=(makeN xl xh).2.1) (r:Nat×Nat×Nat×ByteArray) (hr:r=bE ps n (plT al) (plT ah)):
  aw 34 #[.slice ao n c,gU xl xh] w (.tuple #[gU r.1 r.2.1,iV (r.2.2.1:Int),.string r.2.2.2]):=by
 have ix:Iv al ah:=by rw[e1,e2];exact dZ xl xh h1 h2
 refine uB A ao n c ps xl xh al ah _ _ _ _ w hS (fun W hb=>zV ao n c ps W (h.below hb) hn) ?_ (fun W bo bc hS hf=>Cp A bo n bc ps al ah W hS hf h.1 hn ix r hr);intro w hS;rw[e1,e2];exact gh A xl xh w h1 h2 hS
end
section
open Go.RowKit
structure RSt (w W:World) (gr xl xh rl rh:Nat):Prop where
 k3:W.heap[w.heap.size]?=some (.cells #[nV xl,nV xh] 28 (0,0))
 k4:W.heap[w.heap.size+1]?=some (.cells #[uV 0,uV 0] 28 (0,0))
 kr:W.heap[gr]?=some (.cells #[nV rl,nV rh] 28 (0,0))
 hb:Below w.heap.size w W
 lr:w.heap.size+1<gr
theorem RSt.below {w W W':World} {gr xl xh rl rh:Nat} (m:RSt w W gr xl xh rl rh) (hb:Below W.heap.size W W'):RSt w W' gr xl xh rl rh:=⟨aa m.k3 hb,aa m.k4 hb,aa m.kr hb,m.hb.trans (hb.mono m.hb.size),m.lr⟩
theorem RSt.alloc {w W:World} {gr xl xh rl rh:Nat} (m:RSt w W gr xl xh rl rh) (o:Obj):RSt w (W.alloc o) gr xl xh rl rh:=m.below (aK.alloc ae o)
theorem RSt.set {w W:World} {gr xl xh rl rh:Nat} (m:RSt w W gr xl xh rl rh) (x y:Nat):RSt w ((W.setCell ⟨gr,0,none⟩ (nV x)).setCell ⟨gr,1,none⟩ (nV y)) gr xl xh x y:=by
 have e:=m.lr;have e3:w.heap.size≠gr:=by omega
 have e4:w.heap.size+1≠gr:=by omega
 have e5:w.heap.size≤gr:=by omega
 exact⟨aG (aG m.k3 e3) e3,aG (aG m.k4 e4) e4,aA m.kr,(m.hb.setCell (by exact e5) _).setCell (by exact e5) _,m.lr⟩
theorem wC (g off m c:Nat) (ps:Nat→Nat) (xl xh al ah:Nat) (w:World) (hg:g<w.heap.size) (hc:∀i,i<m+1→w.cell? ⟨g,off+i,none⟩=some (uV (ps i:Int))) (hm9:m<9)
  (hR:∀W,Below w.heap.size w W→aw 80 #[.slice (some ⟨g,off,none⟩) (m+1) c] W (iV 0))
  (hP:∀i,i<m+1→∀W:World,aw 81 #[uV (ps i:Int)] W (.agg #[uV (posW (ps i):Int),uV (posW (ps i):Int)]))
  (hO5:∀l h,Iv l h→∀W:World,aw 29 #[iV 5,gU l h,gU xl xh] W (.tuple #[.agg #[uV ((refOpN 5 (plT l) (plT h) (plT al) (plT ah)).1:Int),uV ((refOpN 5 (plT l) (plT h) (plT al) (plT ah)).2.1:Int)],iV ((refOpN 5 (plT l) (plT h) (plT al) (plT ah)).2.2.1:Int),.string (refOpN 5 (plT l) (plT h) (plT al) (plT ah)).2.2.2]))
  (hO3:∀l h,Iv l h→∀i,i<m+1→∀W:World,aw 29 #[iV 3,gU l h,.agg #[uV (posW (ps i):Int),uV (posW (ps i):Int)]] W (.tuple #[.agg #[uV ((refOpN 3 (plT l) (plT h) (plT (posW (ps i))) (plT (posW (ps i)))).1:Int),uV ((refOpN 3 (plT l) (plT h) (plT (posW (ps i))) (plT (posW (ps i)))).2.1:Int)],iV ((refOpN 3 (plT l) (plT h) (plT (posW (ps i))) (plT (posW (ps i)))).2.2.1:Int),.string (refOpN 3 (plT l) (plT h) (plT (posW (ps i))) (plT (posW (ps i)))).2.2.2]))
  (H:Nat→Nat×Nat×Nat×ByteArray) (hH:zT ps m al ah H):
  aw 36 #[.slice (some ⟨g,off,none⟩) (m+1) c,gU xl xh] w (.tuple #[.agg #[uV ((H 0).1:Int),uV ((H 0).2.1:Int)],iV ((H 0).2.2.1:Int),.string (H 0).2.2.2]):=by
 have HC:=hid hc;have HG:=hid hg;have HR:=hid hR;have HP:=hid hP;have HO5:=hid hO5;have HO3:=hid hO3;have HK:=hid hH;clear hR hP hO5 hO3 hH;go_enter Tryz.func36,Tryz.ntmps36;go_wp2_with fail;have B3:=ai (af w (.cells #[nV xl,nV xh] 28)) (.cells #[uV 0,uV 0] 28);have B4:=af (w.alloc (.cells #[nV xl,nV xh] 28)) (.cells #[uV 0,uV 0] 28);have hW:Below w.heap.size w ((w.alloc (.cells #[nV xl,nV xh] 28)).alloc (.cells #[uV 0,uV 0] 28)):=aJ.alloc (by simp) _;have hsz:w.heap.size+1<((w.alloc (.cells #[nV xl,nV xh] 28)).alloc (.cells #[uV 0,uV 0] 28)).heap.size:=by simp
 simp only[World.size_alloc] at B4;generalize((w.alloc (.cells #[nV xl,nV xh] 28)).alloc (.cells #[uV 0,uV 0] 28))=W1 at*;refine (HR.out _ hW).mono ?_;rintro e w0 ⟨rfl,hb0⟩;have hW0:=hW.trans (hb0.mono hW.size);have B30:=aa B3 hb0;have B40:=aa B4 hb0;have hsz0:=Nat.lt_of_lt_of_le hsz hb0.size;have h0:w0.cell? ⟨g,off+m,none⟩=some (uV (ps m:Int)):=by rw[hW0.cell (by exact hg)];exact hc m (by omega)
 clear hW B3 B4 hsz hb0 hc HR;go_wp2_with fail;refine (HP.out m (by omega) _).mono ?_;rintro e w1 ⟨rfl,hb1⟩;have M1:Hid (RSt w (w1.alloc (.cells #[uV (posW (ps m):Int),uV (posW (ps m):Int)] 28)) w1.heap.size xl xh (posW (ps m)) (posW (ps m))):=⟨ai (aa B30 hb1) _,ai (aa B40 hb1) _,af w1 _,(hW0.trans (hb1.mono hW0.size)).alloc (Nat.le_trans hW0.size hb1.size) _,Nat.lt_of_lt_of_le hsz0 hb1.size⟩;clear B30 B40 hW0 hsz0 hb1 h0;go_wp2_with fail;generalize hgr:w1.heap.size=gr at*;generalize(w1.alloc (.cells #[uV (posW (ps m):Int),uV (posW (ps m):Int)] 28))=W2 at*;clear hgr
 go_loopw [9,10,11,12,13,14] (fun x _ _ _ _ _ wr=>∃t:Nat,t≤m∧x=iV ((t:Int)-1)∧(H t).2.2.1=0∧RSt w wr gr xl xh (H t).1 (H t).2.1) (fun x _ _ _ _ _ _=>(intOf x+1).toNat)
 case atStart=>
  refine⟨m,Nat.le_refl _,by first|rfl|go_num,?_,?_⟩
  ·rw[HK.out.first]
  ·rw[HK.out.first];exact M1.out
 case round=>
  obtain⟨t,ht,rfl,hcode,hm⟩:=hrel;clear M1
  cases t with
  |zero=>
   have HM:=hid hm;have HCD:=hid hcode;obtain⟨x0,x1,-,-⟩:=aj hm.kr;obtain⟨z0,z1,z2,z3⟩:=aj hm.k4;clear hm hcode;go_wp2_with fail;obtain⟨p0,p1,-,-⟩:=aj (aA (a:=uV ((H 0).1:Int)) (b:=uV ((H 0).2.1:Int)) HM.out.k4);refine bodyPost_ret (v:= .tuple #[.agg #[uV ((H 0).1:Int),uV ((H 0).2.1:Int)],iV 0,.string ⟨#[]⟩]) (by simp[results,Tryz.results36,go_sem,p0,p1]) rfl ?_;rw[HCD.out,HK.out.name 0 HCD.out];exact⟨rfl,(HM.out.hb.setCell (by simp) _).setCell (by simp) _⟩
  |succ t=>
   have hct:wr.cell? ⟨g,off+t,none⟩=some (uV (ps t:Int)):=by rw[hm.hb.cell (by exact HG.out)];exact HC.out t (by omega)
   have iv:=HK.out.iv (t+1) ht hcode;have HB:Hid ((refOpN 5 (plT (H (t+1)).1) (plT (H (t+1)).2.1) (plT al) (plT ah)).2.2.1≠0→H t=refOpN 5 (plT (H (t+1)).1) (plT (H (t+1)).2.1) (plT al) (plT ah)):=fun h=>(HK.out.step t (by omega)).trans (uo hcode h)
   have HGD:Hid ((refOpN 5 (plT (H (t+1)).1) (plT (H (t+1)).2.1) (plT al) (plT ah)).2.2.1=0→H t=refOpN 3 (plT (refOpN 5 (plT (H (t+1)).1) (plT (H (t+1)).2.1) (plT al) (plT ah)).1) (plT (refOpN 5 (plT (H (t+1)).1) (plT (H (t+1)).2.1) (plT al) (plT ah)).2.1) (plT (posW (ps t))) (plT (posW (ps t)))):=fun h=>(HK.out.step t (by omega)).trans (sj hcode h)
   have HMUL:=hid (HO5.out _ _ iv);have HIM:Hid ((refOpN 5 (plT (H (t+1)).1) (plT (H (t+1)).2.1) (plT al) (plT ah)).2.2.1=0→Iv (refOpN 5 (plT (H (t+1)).1) (plT (H (t+1)).2.1) (plT al) (plT ah)).1 (refOpN 5 (plT (H (t+1)).1) (plT (H (t+1)).2.1) (plT al) (plT ah)).2.1):=wX;have HADD0:=hid (fun h:(refOpN 5 (plT (H (t+1)).1) (plT (H (t+1)).2.1) (plT al) (plT ah)).2.2.1=0=>HO3.out _ _ (HIM.out h) t (by omega));have HM:=hid hm;have HPT:=hid (HP.out t (by omega));obtain⟨x0,x1,-,-⟩:=aj hm.kr;obtain⟨y0,y1,-,-⟩:=aj hm.k3;have lx:=ag hm.kr;have ly:=ag hm.k3;clear hm hcode iv HP HC HO5 HO3;generalize refOpN 5 (plT (H (t+1)).1) (plT (H (t+1)).2.1) (plT al) (plT ah)=rm at*;generalize(H (t+1)).1=rl at*;generalize(H (t+1)).2.1=rh at*;obtain⟨m1,m2,m3,ms⟩:=rm;simp only at HB HGD HMUL HIM HADD0;go_wp2_with fail;refine wp_loop_rounds 3 ?_;rw[rounds_succ];go_wp2_with fail;refine (HMUL.out _).mono ?_;rintro e w3 ⟨rfl,hb3⟩;have hbA:=((Below.refl _ wr).alloc ae (.cells #[nV xl,nV xh] 28)).trans (hb3.mono (by simp));have M3:=hid (HM.out.below hbA);have hct3:w3.cell? ⟨g,off+t,none⟩=some (uV (ps t:Int)):=by rw[hbA.cell (by have:=HM.out.hb.size;have:=HG.out;simp;omega)];exact hct
   have HF:Hid (m3≠0→(H 0).1=0∧(H 0).2.1=0∧(H 0).2.2.1=m3∧(H 0).2.2.2=ms):=fun h=>by
    have e:=HB.out h;have hc:(H t).2.2.1≠0:=by rw[e];exact h
    obtain⟨z1,z2⟩:=HK.out.zero t (by omega) hc;rw[HK.out.stick t (by omega) hc];exact⟨z1,z2,by rw[e],by rw[e]⟩
   clear hb3 hbA hct x0 x1 y0 y1 lx ly HM HMUL;by_cases hz:m3=0
   ·subst hz;have HGE:=HGD.out rfl;have HADD:=hid (HADD0.out rfl);rw[←HGE] at HADD
    have HFN:Hid ((H t).2.2.1≠0→(H 0).1=0∧(H 0).2.1=0∧(H 0).2.2.1=(H t).2.2.1∧(H 0).2.2.2=(H t).2.2.2):=fun h=>by
     obtain⟨z1,z2⟩:=HK.out.zero t (by omega) h;rw[HK.out.stick t (by omega) h];exact⟨z1,z2,rfl,rfl⟩
    obtain⟨x0,x1,x2,x3⟩:=aj M3.out.kr;have lx:=ag M3.out.kr;clear HGE HF HB HGD HIM HADD0;generalize posW (ps t)=q at*;generalize hHt:H t=ra at*;obtain⟨a1,a2,a3,as_⟩:=ra;simp only at HADD HFN;have M4:Hid (RSt w (((w3.setCell ⟨gr,0,none⟩ (nV m1)).setCell ⟨gr,1,none⟩ (nV m2)).alloc (.cells #[nV m1,nV m2] 28)) gr xl xh m1 m2):=(M3.out.set _ _).alloc _;have hne:g≠gr:=by have:=M3.out.lr;have:=HG.out;omega
    have hct4:(((w3.setCell ⟨gr,0,none⟩ (nV m1)).setCell ⟨gr,1,none⟩ (nV m2)).alloc (.cells #[nV m1,nV m2] 28)).cell? ⟨g,off+t,none⟩=some (uV (ps t:Int)):=by
     rw[World.cell?_of_block (Below.heap_alloc _ _ _ (by have:=M3.out.hb.size;have:=HG.out;simp;omega)),aS hne,aS hne];exact hct3
    go_wp2_with fail;clear x0 x1 x2 x3 lx hne hct3 M3;generalize(((w3.setCell ⟨gr,0,none⟩ (nV m1)).setCell ⟨gr,1,none⟩ (nV m2)).alloc (.cells #[nV m1,nV m2] 28))=W5 at*;obtain⟨y0,y1,-,-⟩:=aj M4.out.k3;have ti1:(t:Int)<(m:Int)+1:=by omega
    have ti2:t<m+1:=by omega
    have ti3:(0:Int)≤(t:Int):=by omega
    have lg:=Nat.lt_of_lt_of_le HG.out M4.out.hb.size;rw[rounds_succ];go_wp2_with fail;refine (HPT.out _).mono ?_;rintro e w6 ⟨rfl,hb6⟩;have KY:=hid (aa (af W5 (.cells #[nV xl,nV xh] 28)) hb6);have M6:=hid ((M4.out.alloc _).below hb6);have hne6:=Nat.ne_of_lt (ag M4.out.kr);have hne7:=M4.out.hb.size;have n3:w.heap.size≠W5.heap.size:=by have:=M4.out.lr;have:=ag M4.out.kr;omega
    have n4:w.heap.size+1≠W5.heap.size:=by have:=M4.out.lr;have:=ag M4.out.kr;omega
    generalize W5.heap.size=gy at*;obtain⟨y0,y1,y2,y3⟩:=aj KY.out;have ly:=ag KY.out;have M7:Hid (RSt w ((w6.setCell ⟨gy,0,none⟩ (nV q)).setCell ⟨gy,1,none⟩ (nV q)) gr xl xh m1 m2):=⟨aG (aG M6.out.k3 n3) n3,aG (aG M6.out.k4 n4) n4,aG (aG M6.out.kr hne6) hne6,(M6.out.hb.setCell (by exact hne7) _).setCell (by exact hne7) _,M6.out.lr⟩;obtain⟨r0,r1,-,-⟩:=aj M7.out.kr;obtain⟨s0,s1,-,-⟩:=aj (aA (a:=nV q) (b:=nV q) KY.out);clear hb6 M4 hct4 HPT ti1 ti2 ti3 lg M6 KY hne6 hne7 n3 n4;go_wp2_with fail;clear y0 y1 y2 y3 ly r0 r1 s0 s1;generalize((w6.setCell ⟨gy,0,none⟩ (nV q)).setCell ⟨gy,1,none⟩ (nV q))=W7 at*;refine (HADD.out _).mono ?_;rintro e w8 ⟨rfl,hb8⟩;have M8:=hid (M7.out.below hb8);clear hb8 M7 HADD;by_cases hz:a3=0
    ·subst hz;have M9:Hid (RSt w (((w8.setCell ⟨gr,0,none⟩ (nV a1)).setCell ⟨gr,1,none⟩ (nV a2)).alloc (.cells #[nV a1,nV a2] 28)) gr xl xh a1 a2):=(M8.out.set _ _).alloc _;obtain⟨x0,x1,x2,x3⟩:=aj M8.out.kr;have lx:=ag M8.out.kr;clear HFN;go_wp2_with fail;rw[rounds_succ];go_wp2_with fail;go_roundw
     case rel=>exact⟨t,by omega,by go_num,by rw[hHt],by rw[hHt];exact M9.out⟩
     case measure=>first|(simp[intOf];done)|(simp[intOf];omega)
    ·have HFF:=hid (HFN.out hz);obtain⟨z0,z1,z2,z3⟩:=aj M8.out.k4;have lz:=ag M8.out.k4;have hz':¬(a3:Int)=0:=by omega
     clear HFN;go_wp2_with fail;obtain⟨p0,p1,-,-⟩:=aj (ai (aA (a:=uV 0) (b:=uV 0) M8.out.k4) (.cells #[nV a1,nV a2] 28));refine bodyPost_ret (v:= .tuple #[.agg #[uV 0,uV 0],iV (a3:Int),.string as_]) (by simp[results,Tryz.results36,go_sem,p0,p1]) rfl ?_;obtain⟨f1,f2,f3,f4⟩:=HFF.out;rw[f1,f2,f3,f4];exact⟨rfl,((M8.out.hb.setCell (by simp) _).setCell (by simp) _).alloc (by have:=M8.out.hb.size;simp;omega) _⟩
   ·have hFF:=HF.out hz;have HFF:=hid hFF;obtain⟨z0,z1,z2,z3⟩:=aj M3.out.k4;have lz:=ag M3.out.k4;have hz':¬(m3:Int)=0:=by omega
    clear HF HB HGD HIM HPT HADD0 hct3 hFF;go_wp2_with fail;obtain⟨p0,p1,-,-⟩:=aj (ai (aA (a:=uV 0) (b:=uV 0) M3.out.k4) (.cells #[nV m1,nV m2] 28));refine bodyPost_ret (v:= .tuple #[.agg #[uV 0,uV 0],iV (m3:Int),.string ms]) (by simp[results,Tryz.results36,go_sem,p0,p1]) rfl ?_;obtain⟨f1,f2,f3,f4⟩:=HFF.out;rw[f1,f2,f3,f4];exact⟨rfl,((M3.out.hb.setCell (by simp) _).setCell (by simp) _).alloc (by have:=M3.out.hb.size;simp;omega) _⟩
theorem x9 (ao:Option Addr) (n c k:Nat) (xl xh:Nat) (w:World) (hk:k≠0)
  (hR:∀W,Below w.heap.size w W→aw 80 #[.slice ao n c] W (iV (k:Int))):
  aw 36 #[.slice ao n c,gU xl xh] w (.tuple #[.agg #[uV 0,uV 0],iV (k:Int),.string ⟨#[]⟩]):=by
 have HR:=hid hR;have hk':¬(k:Int)=0:=by omega
 clear hR hk;go_enter Tryz.func36,Tryz.ntmps36;go_wp2_with fail;have B4:=af (w.alloc (.cells #[nV xl,nV xh] 28)) (.cells #[uV 0,uV 0] 28);have hW:Below w.heap.size w ((w.alloc (.cells #[nV xl,nV xh] 28)).alloc (.cells #[uV 0,uV 0] 28)):=aJ.alloc (by simp) _;simp only[World.size_alloc] at B4;generalize((w.alloc (.cells #[nV xl,nV xh] 28)).alloc (.cells #[uV 0,uV 0] 28))=W1 at*;refine (HR.out _ hW).mono ?_;rintro e w0 ⟨rfl,hb0⟩;have HB:=hid (hW.trans (hb0.mono hW.size));have HK4:=hid (aa B4 hb0);obtain⟨z0,z1,z2,z3⟩:=aj HK4.out;clear hW B4 hb0 HR;go_wp2_with fail;obtain⟨p0,p1,-,-⟩:=aj (aA (a:=uV 0) (b:=uV 0) HK4.out);refine bodyPost_ret (v:= .tuple #[.agg #[uV 0,uV 0],iV (k:Int),.string ⟨#[]⟩]) (by simp[results,Tryz.results36,go_sem,p0,p1]) rfl ?_;exact⟨rfl,(HB.out.setCell (by simp) _).setCell (by simp) _⟩
theorem ma (ao:Option Addr) (n c:Nat) (ps:Nat→Nat) (xl xh:Nat) (w:World) (h:WdV w ao n ps) (hn:n*8≤140737488355328) (h1:xl<18446744073709551616) (h2:xh<18446744073709551616) (al ah:Nat) (e1:al=(makeN xl xh).1) (e2:ah=(makeN xl xh).2.1) (r:Nat×Nat×Nat×ByteArray) (hr:r=bE ps n (plT al) (plT ah)):
  aw 36 #[.slice ao n c,gU xl xh] w (.tuple #[gU r.1 r.2.1,iV (r.2.2.1:Int),.string r.2.2.2]):=by
 unfold bE at hr;have hR:∀W,Below w.heap.size w W→aw 80 #[.slice ao n c] W (iV (rightN ps n:Int)):=fun W hb=>um ao n c ps W (h.below hb) hn
 by_cases h0:rightN ps n≠0
 ·rw[if_pos h0] at hr;subst hr;exact x9 ao n c _ xl xh w h0 hR
 ·rw[if_neg h0] at hr;have h0':rightN ps n=0:=Decidable.not_not.1 h0;obtain⟨hn1,hn9,hpl⟩:=dR h0';obtain⟨m,rfl⟩:∃m,n=m+1:=⟨n-1,by omega⟩;have hp:=h.1;have hk:=A0 (xl:=al) (xh:=ah) h0' hp;have e:r=(fun t=>hornN ps (m+1) (plT al) (plT ah) (m-t)) 0:=hr;generalize(fun t=>hornN ps (m+1) (plT al) (plT ah) (m-t))=H at*;subst e;obtain⟨g,off,rfl,hg,hc⟩:=h.2.resolve_left (by omega);rw[h0'] at hR;refine wC g off m c ps xl xh al ah w hg hc (by omega) hR (fun i hi W=>AH (ps i) W (hp i hi)) (fun l h i W=>?_) (fun l h i k hk W=>?_) H hk
  ·exact kh 5 l h xl xh W i.lt1 i.lt2 h1 h2 l h al ah (by rw[dm i]) (by rw[dm i]) e1 e2 _ rfl
  ·have ip:=kT (hp k hk) (hpl k hk);exact kh 3 l h _ _ W i.lt1 i.lt2 ip.lt1 ip.lt2 l h _ _ (by rw[dm i]) (by rw[dm i]) (by rw[dm ip]) (by rw[dm ip]) _ rfl
theorem LSt.cells8 {w W:World} {c0 c1 c2 c3 c4 c5 c6 c7 c8:Value} (m:LSt w W #[c0,c1,c2,c3,c4,c5,c6,c7,c8]):W.cell? ⟨w.heap.size,4,none⟩=some c4∧W.cell? ⟨w.heap.size,5,none⟩=some c5∧W.cell? ⟨w.heap.size,8,none⟩=some c8:=by
 obtain⟨-,-,-,-,k4,k5,-,-,k8⟩:=qH m.k0;exact⟨k4,k5,k8⟩
theorem rO (A:Nat→Addr) (a b:Int) (s:ByteArray) (xl xh yl yh:Nat) (po:Option Addr) (n pc:Nat) (ps:Nat→Nat) (r1 r2 r3:Nat) (rs:ByteArray) (w:World) (hS:aE A w) (hw:WdV w po n ps) (hn:n*8≤140737488355328)
  (hp:∀W bo bc,aE A W→WdV W bo n ps→aw 34 #[.slice bo n bc,gU xl xh] W (.tuple #[gU r1 r2,iV (r3:Int),.string rs]))
  (hq:∀W bo bc,WdV W bo n ps→aw 36 #[.slice bo n bc,gU xl xh] W (.tuple #[gU r1 r2,iV (r3:Int),.string rs])):
  aw 18 #[.agg #[Value.int IntKind.i64 5,Value.int IntKind.i64 a,Value.int IntKind.i64 b,Value.string s,Value.int IntKind.u64 (xl:Int),Value.int IntKind.u64 (xh:Int),Value.int IntKind.u64 (yl:Int),Value.int IntKind.u64 (yh:Int),Value.slice po n pc]] w (.bool true):=by
 have HP:Hid (∀(W:World) (bo:Option Addr) (bc:Nat),Below w.heap.size w W→WdV W bo n ps→aw 34 #[.slice bo n bc,gU xl xh] W (.tuple #[gU r1 r2,iV (r3:Int),.string rs])):=fun W bo bc hb h=>hp W bo bc (hS.below hb ae) h
 have HQ:Hid (∀W,Below w.heap.size w W→aw 36 #[.slice po n pc,gU xl xh] W (.tuple #[gU r1 r2,iV (r3:Int),.string rs])):=fun W hb=>hq W po pc (hw.below hb)
 have H1:Hid (∀W,Below w.heap.size w W→ax 35 #[.slice po n pc] W fun e w'=>∃bo bc,e= .returned (.slice bo n bc)∧WdV w' bo n ps∧Below W.heap.size W w'):=fun W hb=>rH po n pc ps W (hw.below hb) hn
 have H2:Hid (∀W,aw 26 #[gU xl xh] W (gU xl xh)):=fun W=>eH _ _ W
 clear hp hq hS hw hn;go_enter Tryz.func18,Tryz.ntmps18;go_wp2_with fail;have m1:Hid (LSt w (w.alloc (.cells #[iV 5,iV a,iV b,.string s,nV xl,nV xh,nV yl,nV yh,.slice po n pc] 31)) #[Value.int IntKind.i64 5,Value.int IntKind.i64 a,Value.int IntKind.i64 b,Value.string s,Value.int IntKind.u64 (xl:Int),Value.int IntKind.u64 (xh:Int),Value.int IntKind.u64 (yl:Int),Value.int IntKind.u64 (yh:Int),Value.slice po n pc]):=⟨af w _,aK.alloc ae _,by simp⟩;generalize(w.alloc (.cells #[iV 5,iV a,iV b,.string s,nV xl,nV xh,nV yl,nV yh,.slice po n pc] 31))=W2 at*
 go_cut [27,28,29] (fun s8 s9 s10 wc=>∃g,s8= .pointer (some ⟨g,0,none⟩)∧s9=iV (r3:Int)∧s10= .string rs∧LSt w wc #[Value.int IntKind.i64 5,Value.int IntKind.i64 a,Value.int IntKind.i64 b,Value.string s,Value.int IntKind.u64 (xl:Int),Value.int IntKind.u64 (xh:Int),Value.int IntKind.u64 (yl:Int),Value.int IntKind.u64 (yh:Int),Value.slice po n pc]∧bZ w wc g (nV r1) (nV r2))
 case first=>
  have iN:Hid (LSt w W2.drew #[Value.int IntKind.i64 5,Value.int IntKind.i64 a,Value.int IntKind.i64 b,Value.string s,Value.int IntKind.u64 (xl:Int),Value.int IntKind.u64 (xh:Int),Value.int IntKind.u64 (yl:Int),Value.int IntKind.u64 (yh:Int),Value.slice po n pc]):=m1.out.drew
  go_region_held3 (fun W=>W.cell? ⟨w.heap.size,4,none⟩=some (.int .u64 (xl:Int))∧W.cell? ⟨w.heap.size,5,none⟩=some (.int .u64 (xh:Int))∧W.cell? ⟨w.heap.size,8,none⟩=some (.slice po n pc)) (first|with_reducible exact iN.out.cells8|with_reducible exact(m1.out.alloc _).drew.cells8|with_reducible exact(iN.out.alloc _).cells8|with_reducible exact(iN.out.set2 zf.out _ _).cells8)
   (first
     |(go_at_call 35;with_reducible (refine (H1.out _ ?_).mono ?_);(with_reducible exact iN.out.hb);rintro e v0 ⟨bo,bc,rfl,hw,hbk⟩
       have NW:Hid (WdV v0 bo n ps):=hw;clear hw;have iN:Hid (LSt w v0 #[Value.int IntKind.i64 5,Value.int IntKind.i64 a,Value.int IntKind.i64 b,Value.string s,Value.int IntKind.u64 (xl:Int),Value.int IntKind.u64 (xh:Int),Value.int IntKind.u64 (yl:Int),Value.int IntKind.u64 (yh:Int),Value.slice po n pc]):=iN.out.below hbk;clear hbk)
     |(go_at_call 35;with_reducible (refine (H1.out _ ?_).mono ?_);(with_reducible exact(m1.out.alloc _).drew.hb);rintro e v0 ⟨bo,bc,rfl,hw,hbk⟩
       have zf:Hid (bZ w v0 _ _ _):=(bZ.new m1.out.sz).drew.below hbk;have NW:Hid (WdV v0 bo n ps):=hw;clear hw;have iN:Hid (LSt w v0 #[Value.int IntKind.i64 5,Value.int IntKind.i64 a,Value.int IntKind.i64 b,Value.string s,Value.int IntKind.u64 (xl:Int),Value.int IntKind.u64 (xh:Int),Value.int IntKind.u64 (yl:Int),Value.int IntKind.u64 (yh:Int),Value.slice po n pc]):=(m1.out.alloc _).drew.below hbk;clear hbk)
     |(go_at_call 26;with_reducible (refine (H2.out _).mono ?_);rintro e v1 ⟨rfl,hbk⟩
       try(have zf:Hid (bZ w v1 _ _ _):=zf.out.below hbk)
       have NW:Hid (WdV v1 bo n ps):=NW.out.below hbk;have iN:Hid (LSt w v1 #[Value.int IntKind.i64 5,Value.int IntKind.i64 a,Value.int IntKind.i64 b,Value.string s,Value.int IntKind.u64 (xl:Int),Value.int IntKind.u64 (xh:Int),Value.int IntKind.u64 (yl:Int),Value.int IntKind.u64 (yh:Int),Value.slice po n pc]):=iN.out.below hbk;clear hbk)
     |(go_at_call 26;with_reducible (refine (H2.out _).mono ?_);rintro e v1 ⟨rfl,hbk⟩
       have zf:Hid (bZ w v1 _ _ _):=(bZ.new iN.out.sz).below hbk;have NW:Hid (WdV v1 bo n ps):=(NW.out.below aJ).below hbk;have iN:Hid (LSt w v1 #[Value.int IntKind.i64 5,Value.int IntKind.i64 a,Value.int IntKind.i64 b,Value.string s,Value.int IntKind.u64 (xl:Int),Value.int IntKind.u64 (xh:Int),Value.int IntKind.u64 (yl:Int),Value.int IntKind.u64 (yh:Int),Value.slice po n pc]):=(iN.out.alloc _).below hbk;clear hbk)
     |(go_at_call 34;with_reducible (refine (HP.out _ bo bc ?_ ?_).mono ?_);(with_reducible exact iN.out.hb);(exact NW.out);rintro e v2 ⟨rfl,hbk⟩
       try(have zf:Hid (bZ w v2 _ _ _):=zf.out.below hbk;obtain⟨zc0,zc1,zc2,zc3⟩:=aj zf.out.1)
       have iN:Hid (LSt w v2 #[Value.int IntKind.i64 5,Value.int IntKind.i64 a,Value.int IntKind.i64 b,Value.string s,Value.int IntKind.u64 (xl:Int),Value.int IntKind.u64 (xh:Int),Value.int IntKind.u64 (yl:Int),Value.int IntKind.u64 (yh:Int),Value.slice po n pc]):=iN.out.below hbk;clear hbk)
     |(go_at_call 34;with_reducible (refine (HP.out _ bo bc ?_ ?_).mono ?_);(with_reducible exact(iN.out.alloc _).hb);(exact(NW.out.below aJ));rintro e v2 ⟨rfl,hbk⟩
       have zf:Hid (bZ w v2 _ _ _):=(bZ.new iN.out.sz).below hbk;obtain⟨zc0,zc1,zc2,zc3⟩:=aj zf.out.1;have iN:Hid (LSt w v2 #[Value.int IntKind.i64 5,Value.int IntKind.i64 a,Value.int IntKind.i64 b,Value.string s,Value.int IntKind.u64 (xl:Int),Value.int IntKind.u64 (xh:Int),Value.int IntKind.u64 (yl:Int),Value.int IntKind.u64 (yh:Int),Value.slice po n pc]):=(iN.out.alloc _).below hbk;clear hbk))
  all_goals(go_wp2_with fail;go_meet;refine⟨_,rfl,rfl,rfl,?_,?_⟩)
  all_goals first|with_reducible exact iN.out.set2 zf.out _ _|with_reducible exact zf.out.same _ _|with_reducible exact iN.out.alloc _|with_reducible exact bZ.new iN.out.sz
 case rest=>
  clear HP H1 H2 m1;obtain⟨g,rfl,rfl,rfl,hL,hB⟩:=hcut;have ML:Hid (LSt w wc #[Value.int IntKind.i64 5,Value.int IntKind.i64 a,Value.int IntKind.i64 b,Value.string s,Value.int IntKind.u64 (xl:Int),Value.int IntKind.u64 (xh:Int),Value.int IntKind.u64 (yl:Int),Value.int IntKind.u64 (yh:Int),Value.slice po n pc]):=hL;have MB:Hid (bZ w wc g (nV r1) (nV r2)):=hB;obtain⟨k4,k5,k8⟩:=hL.cells8;clear hL hB;go_wp2_with fail;refine (HQ.out _ ML.out.hb).mono ?_;rintro e w3 ⟨rfl,hb3⟩;have ML3:Hid (LSt w w3 #[Value.int IntKind.i64 5,Value.int IntKind.i64 a,Value.int IntKind.i64 b,Value.string s,Value.int IntKind.u64 (xl:Int),Value.int IntKind.u64 (xh:Int),Value.int IntKind.u64 (yl:Int),Value.int IntKind.u64 (yh:Int),Value.slice po n pc]):=ML.out.below hb3;obtain⟨j0,j1,-,-⟩:=aj (MB.out.below hb3).1;have lj:=ag (MB.out.below hb3).1;clear hb3 k4 k5 k8 ML MB HQ;go_wp2_with fail;refine(iZ _ _ _).mono ?_;rintro e w4 ⟨rfl,hb4⟩;have hbD:Below w.heap.size w w4:=(ML3.out.hb.alloc ML3.out.hb.size _).trans (hb4.mono (by have:=ML3.out.hb.size;simp;omega));clear ML3 hb4 j0 j1 lj;go_wp2
  go_ret
  exact⟨rfl,hbD⟩
theorem Ht (A:Nat→Addr) (z:bW) (P:Nat→Nat→Nat) (ao:Option Addr) (n c:Nat) (w:World) (hn:n≤1466015503701) (hS:aE A w)
  (hz:n=0∨∃g off,ao=some ⟨g,off,none⟩∧g<w.heap.size∧z.at w g off n) (hx:∀i,i<n→z.xl i<18446744073709551616∧z.xh i<18446744073709551616) (hP:∀i,i<n→WdV w (z.po i) (z.pl i) (P i)∧z.pl i*8≤140737488355328):
  aw 8 #[.slice ao n c] w (.bool true):=by
 have HU:=lW A z ao n c 5 5 w hn hS hz (fun i hi h1 h2 W hb hW=>by
  have hk:z.k i=5:=by omega
  unfold bW.val;rw[hk];obtain⟨x1,x2⟩:=hx i hi;obtain⟨p1,p2⟩:=hP i hi;exact rO A _ _ _ _ _ _ _ _ _ _ (P i) _ _ _ _ W hW (p1.below hb) p2 (fun W bo bc hS h=>nT A bo _ bc (P i) _ _ W hS h p2 x1 x2 _ _ rfl rfl _ rfl) (fun W bo bc h=>ma bo _ bc (P i) _ _ W h p2 x1 x2 _ _ rfl rfl _ rfl))
 clear hz hx hS hn hP;have HU:Hid (aw 14 #[.slice ao n c,iV 5,iV 5] w (iV (-1))):=HU;go_enter Tryz.func8,Tryz.ntmps8;go_wp2_with fail;refine Calls.mono HU.out ?_;rintro e w1 ⟨rfl,hb1⟩;clear HU;go_wp2
 go_ret
 exact⟨rfl,hb1⟩
structure QSt (w W:World) (g7:Nat) (x a:Array Value):Prop where
 k4:W.heap[w.heap.size]?=some (.cells x 28 (0,0))
 k7:W.heap[g7]?=some (.cells a 98 (0,0))
 hb:Below w.heap.size w W
theorem QSt.below {w W W':World} {g7:Nat} {x a:Array Value} (m:QSt w W g7 x a) (hb:Below W.heap.size W W'):QSt w W' g7 x a:=⟨aa m.k4 hb,aa m.k7 hb,m.hb.trans (hb.mono m.hb.size)⟩
theorem QSt.alloc {w W:World} {g7:Nat} {x a:Array Value} (m:QSt w W g7 x a) (o:Obj):QSt w (W.alloc o) g7 x a:=m.below (aK.alloc ae o)
theorem AS (po:Option Addr) (n pc:Nat) (dep:Int) (xl xh v1 v2:Nat) (vs:ByteArray) (a1 a2 c1 c2:ap) (w:World)
  (hM:dF #[gU xl xh] a1 a2)
  (hE:∀W,Below w.heap.size w W→aw 36 #[.slice po n pc,gU xl xh] W (.tuple #[gU v1 v2,iV 0,.string vs]))
  (hV:dF #[gU v1 v2] c1 c2) (hz:holdsT c1 c2=false):
  aw 82 #[.slice po n pc,gU xl xh,iV dep] w (.slice none 0 0):=by
 have HM:=hid hM;have HE:=hid hE;have HV:=hid hV
 have HZ:Hid (∀(W:World) (v:Value),IvV W v c1 c2→aw 121 #[v] W (.bool false)):=fun W v h=>by
  have:=kB v c1 c2 W h;rwa [hz] at this
 clear hM hE hV hz;go_enter Tryz.func82,Tryz.ntmps82;go_wp2_with fail;have B4:=af w (.cells #[nV xl,nV xh] 28);have hW:Below w.heap.size w (w.alloc (.cells #[nV xl,nV xh] 28)):=aK.alloc ae _;generalize(w.alloc (.cells #[nV xl,nV xh] 28))=W1 at*;refine (HM.out _).mono ?_;rintro e w1 ⟨ao,la,ca,bo,lb,cb,rfl,hla,hlb,hna,hnb,hb1⟩;have M1:Hid (QSt w (w1.alloc (.cells #[.bool a1.1,.slice ao la ca,iV a1.2.2,.bool a2.1,.slice bo lb cb,iV a2.2.2] 98)) w1.heap.size #[nV xl,nV xh] #[.bool a1.1,.slice ao la ca,iV a1.2.2,.bool a2.1,.slice bo lb cb,iV a2.2.2]):=⟨ai (aa B4 hb1) _,af w1 _,(hW.trans (hb1.mono hW.size)).alloc (Nat.le_trans hW.size hb1.size) _⟩;obtain⟨x0,x1,-,-⟩:=aj (aa B4 hb1);have lx:=ag (aa B4 hb1);clear B4 hW hb1 hla hlb hna hnb HM;go_wp2_with fail;clear x0 x1 lx;generalize w1.heap.size=g7 at*;generalize(w1.alloc (.cells #[.bool a1.1,.slice ao la ca,iV a1.2.2,.bool a2.1,.slice bo lb cb,iV a2.2.2] 98))=W2 at*;refine (HE.out _ M1.out.hb).mono ?_;rintro e w2 ⟨rfl,hb2⟩;have M2:Hid (QSt w (w2.alloc (.cells #[nV v1,nV v2] 28)) g7 #[nV xl,nV xh] #[.bool a1.1,.slice ao la ca,iV a1.2.2,.bool a2.1,.slice bo lb cb,iV a2.2.2]):=(M1.out.below hb2).alloc _;clear hb2 M1 HE;go_wp2_with fail;generalize(w2.alloc (.cells #[nV v1,nV v2] 28))=W3 at*;refine (HV.out _).mono ?_;rintro e w3 ⟨co,lc,cc,do_,ld,cd,rfl,hlc,hld,hnc,hnd,hb3⟩;have M3:Hid (QSt w (w3.alloc (.cells #[.bool c1.1,.slice co lc cc,iV c1.2.2,.bool c2.1,.slice do_ ld cd,iV c2.2.2] 98)) g7 #[nV xl,nV xh] #[.bool a1.1,.slice ao la ca,iV a1.2.2,.bool a2.1,.slice bo lb cb,iV a2.2.2]):=(M2.out.below hb3).alloc _;have IV:Hid (IvV (w3.alloc (.cells #[.bool c1.1,.slice co lc cc,iV c1.2.2,.bool c2.1,.slice do_ ld cd,iV c2.2.2] 98)) (.agg #[.bool c1.1,.slice co lc cc,iV c1.2.2,.bool c2.1,.slice do_ ld cd,iV c2.2.2]) c1 c2):=⟨co,lc,cc,do_,ld,cd,rfl,hlc,hld,hnc.below aJ ae,hnd.below aJ ae⟩;clear hb3 M2 HV hlc hld hnc hnd;go_wp2_with fail;generalize(w3.alloc (.cells #[.bool c1.1,.slice co lc cc,iV c1.2.2,.bool c2.1,.slice do_ ld cd,iV c2.2.2] 98))=W4 at*;refine (HZ.out _ _ IV.out).mono ?_;rintro e w4 ⟨rfl,hb4⟩;have hF:=M3.out.hb.trans (hb4.mono M3.out.hb.size);clear hb4 M3 HZ IV;go_wp2
 go_ret
 exact⟨rfl,hF⟩
end
end Go.Proofs.YtonhpkigoplmaaaGreatDoor
