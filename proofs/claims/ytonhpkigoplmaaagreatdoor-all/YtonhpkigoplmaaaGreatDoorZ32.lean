import Derived.Test.YtonhpkigoplmaaaGreatDoorZ29
import Derived.Test.YtonhpkigoplmaaaGreatDoorZ30
import Derived.Laws.StructEq
import Derived.Test.YtonhpkigoplmaaaGreatDoorZ31
import Derived.Test.YtonhpkigoplmaaaGreatDoorZ24
import Derived.Test.YtonhpkigoplmaaaGreatDoorRows
import Derived.Test.YtonhpkigoplmaaaGreatDoorCards
import Derived.Test.YtonhpkigoplmaaaGreatDoorTie
import Derived.LaidMore
import Derived.Stop.Joined
import Derived.SevenTiedAt
set_option maxRecDepth 100000
set_option maxHeartbeats 40000000
namespace Go.Proofs.YtonhpkigoplmaaaGreatDoor
section
open Go.RowKit Go.Extern Ieee
theorem mQ {p:Nat×Nat} (h:p.1<18446744073709551616∧p.2<18446744073709551616):Iv (cB p).1 (cB p).2:=dZ _ _ h.1 h.2
theorem jd {na d n:Nat} (h:Shp na d n):na=n*n∧∀y x,y<n→x<n→y*d+x=n*y+x∧n*y+x<na:=by
 obtain⟨h0,h4,hd,h⟩:=h;rcases h with⟨rfl,rfl⟩|⟨h1,rfl,rfl⟩
 ·refine⟨rfl,fun y x hy hx=>?_⟩;obtain rfl:y=0:=by omega
  omega
 ·refine⟨rfl,fun y x hy hx=>⟨by rw[Nat.mul_comm],?_⟩⟩;have:d*(y+1)≤d*d:=Nat.mul_le_mul_left d (by omega);have h3:d*(y+1)=d*y+d:=Nat.mul_succ d y;omega
theorem ei {na d n:Nat} (h:Shp na d n) (P Qb:Nat→Nat×Nat) {y x:Nat} (hy:y<n):(x<n→cY d n P Qb y x=cB (P (n*y+x)))∧cY d n P Qb y n=cB (Qb y):=by
 constructor
 ·intro hx;unfold cY augW;rw[if_pos hx]
  show cB (P (y*d+x))=_
  rw[((jd h).2 y x hy hx).1]
 ·unfold cY augW;rw[if_neg (Nat.lt_irrefl _)]
theorem rZ {na d n:Nat} (h:Shp na d n) {P Qb:Nat→Nat×Nat} (hP:Wds na P) (hQ:Wds n Qb):∀y x,y<n→x≤n→ivW (cY d n P Qb y x):=by
 intro y x hy hx;by_cases hxn:x<n
 ·rw[(ei h P Qb hy).1 hxn];exact mQ (hP _ ((jd h).2 y x hy hxn).2)
 ·obtain rfl:x=n:=by omega
  rw[(ei h P Qb hy (x:=0)).2];exact mQ (hQ y hy)
theorem nv {p:Nat×Nat} (h:p.1<18446744073709551616∧p.2<18446744073709551616):ef (cB p)=false↔(fairT (plT (cB p).1)=true∧fairT (plT (cB p).2)=true):=by
 have i:=mQ h;unfold ef;rw[sB i.lt1 i.p1,sB i.lt2 i.p2]
 cases fairT (plT (cB p).1)<;>cases fairT (plT (cB p).2)<;>simp
theorem oQ {na d n:Nat} (h:Shp na d n) {P Qb:Nat→Nat×Nat} (hP:Wds na P) (hQ:Wds n Qb):(∀y x,y<n→x≤n→ef (cY d n P Qb y x)=false)↔(eP na P∧eP n Qb):=by
 constructor
 ·intro ho;refine⟨fun i hi=>?_,fun i hi=>?_⟩
  ·have h0:=h.1;have hna:=(jd h).1;have hy:i / n<n:=Nat.div_lt_of_lt_mul (by omega);have hx:i % n<n:=Nat.mod_lt _ (Nat.pos_of_ne_zero h0);have:=ho (i / n) (i % n) hy (by omega);rw[(ei h P Qb hy).1 hx,Nat.div_add_mod] at this;exact(nv (hP i hi)).1 this
  ·have:=ho i n hi ae;rw[(ei h P Qb hi (x:=0)).2] at this;exact(nv (hQ i hi)).1 this
 ·rintro⟨h1,h2⟩ y x hy hx;by_cases hxn:x<n
  ·rw[(ei h P Qb hy).1 hxn];have hl:=((jd h).2 y x hy hxn).2;exact(nv (hP _ hl)).2 (h1 _ hl)
  ·obtain rfl:x=n:=by omega
   rw[(ei h P Qb hy (x:=0)).2];exact(nv (hQ y hy)).2 (h2 y hy)
theorem DF {na d n:Nat} (h:Shp na d n) {P Qb xs:Nat→Nat×Nat} (hP:Wds na P) (hQ:Wds n Qb) (hs:dC muX suX quX pvX n (cY d n P Qb) (fun _=>(0,0))=some xs):DH n (fun i=>cB (P i)) (fun i=>cB (Qb i)) xs:=by
 intro R h1 h2
 have hf:=oj h.2.1 (R:=R) hs (rZ h hP hQ) (fun y x hy hx=>by
  by_cases hxn:x<n
  ·rw[(ei h P Qb hy).1 hxn];exact h1 y x hy hxn
  ·obtain rfl:x=n:=by omega
   rw[(ei h P Qb hy (x:=0)).2];exact h2 y hy)
 exact⟨hf.1,fun i hi=>(hf.2 i hi).2⟩
theorem Gt {na d n:Nat} (h:Shp na d n) {P Qb xs:Nat→Nat×Nat} (hP:Wds na P) (hQ:Wds n Qb) (hs:dC muX suX quX pvX n (cY d n P Qb) (fun _=>(0,0))=some xs):Ivs n xs:=by
 have hf:=oj h.2.1 (R:=fun y x=>aF (cY d n P Qb y x).1) hs (rZ h hP hQ) (fun y x hy hx=>⟨by grind,(rZ h hP hQ y x hy hx).vle⟩);exact fun i hi=>(hf.2 i hi).1
theorem wT {q:Rat} {x:ap} (h:fairT x=true) (e:q=aI x):Fb q:=by
 unfold fairT at h;rw[←e,Bool.or_eq_true,Bool.and_eq_true,decide_eq_true_eq,decide_eq_true_eq,decide_eq_true_eq] at h;have h1:=eU 30;rw[show((30:Nat):Int)=30 by rfl,show(2^30:Nat)=1073741824 by decide] at h1;have h2:=bT (-30) 30;rw[show(-30:Int)+30=0 by rfl,pN,h1] at h2;have h3:((1073741824:Nat):Rat)=1073741824:=rfl;rw[h3] at h1 h2;have h4:pw (-30)=1 / 1073741824:=by grind
 rcases h with h|⟨a,b⟩
 ·exact .inl h
 ·exact .inr ⟨by rw[←h4];exact a,by rw[←h1];exact b⟩
theorem BH (n i:Nat) (hi:i<n) (f:Nat→Rat):sumR n f=f i+sumR n (fun j=>if j=i then 0 else f j):=by
 induction n with
 |zero=>omega
 |succ n ih=>
  show sumR n f+f n=f i+(sumR n (fun j=>if j=i then 0 else f j)+(if n=i then 0 else f n))
  by_cases hin:n=i
  ·subst hin;rw[if_pos rfl,show sumR n (fun j=>if j=n then 0 else f j)=sumR n f from cX fun j hj=>by rw[if_neg (by omega)]];grind
  ·rw[if_neg hin,ih (by omega)];grind
theorem vY {na d n:Nat} (h:Shp na d n) {P Qb:Nat→Nat×Nat} (hP:Wds na P) (hQ:Wds n Qb) (hr:eP na P∧eP n Qb) (hs:∀i,i<n→tu n (fun i=>cB (P i)) (fun i=>cB (Qb i)) i):
  ∃g,dC muX suX quX pvX n (cY d n P Qb) (fun _=>(0,0))=some g∧∀G:Rat,(∀j,j<n→ab (aF (g j).1)≤G∧ab (aF (g j).2)≤G)→∀i,i<n→aF (g i).2-aF (g i).1≤G / 1073741824:=by
 refine yq h.2.1 (R:=fun y x=>aF (cY d n P Qb y x).1) (rZ h hP hQ) (fun y x hy hx=>⟨rfl,?_⟩) (fun y x hy hx=>?_) (fun i hi=>?_) (fun i hi=>?_)
 ·unfold hiW;by_cases hxn:x<n
  ·rw[(ei h P Qb hy).1 hxn];have:=(hs y hy).a x hxn;rw[this]
  ·obtain rfl:x=n:=by omega
   rw[(ei h P Qb hy (x:=0)).2];have:=(hs y hy).b;rw[this]
 ·by_cases hxn:x<n
  ·rw[(ei h P Qb hy).1 hxn];exact wT (hr.1 _ ((jd h).2 y x hy hxn).2).1 rfl
  ·obtain rfl:x=n:=by omega
   rw[(ei h P Qb hy (x:=0)).2];exact wT (hr.2 y hy).1 rfl
 ·rw[(ei h P Qb hi).1 hi];exact(hs i hi).nz
 ·have hd:=(hs i hi).dom;rw[BH n i hi];rw[(ei h P Qb hi).1 hi];have e:sumR n (fun j=>if j=i then 0 else ab (aF (cY d n P Qb i j).1))=sumR n (fun j=>if j=i then 0 else ab (aF (cB (P (n*i+j))).1)):=cX fun j hj=>by rw[(ei h P Qb hi).1 hj]
  rw[e];grind
theorem wv {P:Program} (w:World) (d:Nat) (t e:TypeId) (h:P.underlying t=some (.slice e)):(Op.equalIn (d+1) t (.slice none 0 0) (.slice none 0 0)).run P w= .ok true w:=by
 simp[Op.equalIn,run_underlying h]
theorem qC {P:Program} (w:World) (t e:TypeId) (h:P.underlying t=some (.slice e)):(binOp .eql t (.slice none 0 0) (.slice none 0 0)).run P w= .ok (.bool true) w:=by
 have:=wv (P:=P) w 9999 t e h;have h2:(Op.equal t (.slice none 0 0) (.slice none 0 0)).run P w= .ok true w:=this;simp[binOp,h2]
theorem yd (ao bo:Option Addr) (na ac d nb bc:Nat) (pick:Int) (w:World) (hnb:nb<4611686018427387904) (hd:d≤5) (hs:¬Shp na d nb):
  aw 86 #[.slice ao na ac,iV (d:Int),.slice bo nb bc,.slice none 0 0,iV 8,iV pick] w (.bool true):=by
 have HS:=hid (kA ao bo na ac d nb bc w hnb hd);have HN:=hid hs;have hnf:=fun(w:World)=>qC (P:=Tryz.prog) w 61 28 Tryz.underlying61
 clear hs;go_enter Tryz.func86,Tryz.ntmps86;go_wp2_with fail;refine Calls.mono HS.out ?_;rintro e w1 ⟨r,rfl,hr,hw⟩;subst hw
 obtain rfl:r=false:=by
  cases r with
  |false=>rfl
  |true=>exact absurd (hr.1 rfl) HN.out
 clear hr HS HN;go_wp2
 go_ret
 exact⟨rfl,Below.refl _ _⟩
theorem yi (ao bo:Option Addr) (na ac d nb bc:Nat) (P Qb:Nat→Nat×Nat) (pick:Int) (w:World) (hnb:nb≤4) (hna:na≤100) (hd:d≤5) (hP:BxV w ao na P) (hQ:BxV w bo nb Qb) (wP:Wds na P) (wQ:Wds nb Qb) (hs:Shp na d nb) (hr:¬(eP na P∧eP nb Qb)):
  aw 86 #[.slice ao na ac,iV (d:Int),.slice bo nb bc,.slice none 0 0,iV 3,iV pick] w (.bool true):=by
 have HS:=hid (kA ao bo na ac d nb bc w (by omega) hd);have H1:=hid (gV ao na ac P w hP hna wP);have H2:Hid (∀W,Below w.heap.size w W→ax 136 #[.slice bo nb bc] W fun e w'=>∃r,e= .returned (.bool r)∧(r=true↔eP nb Qb)∧Below W.heap.size W w'):=fun W hW=>gV bo nb bc Qb W (hQ.below hW) (by omega) wQ
 have HSh:=hid hs;have HN:=hid hr;have hnf:=fun(w:World)=>qC (P:=Tryz.prog) w 61 28 Tryz.underlying61
 clear hs hr hP hQ wP wQ;go_enter Tryz.func86,Tryz.ntmps86;go_wp2_with fail;refine Calls.mono HS.out ?_;rintro e w1 ⟨r,rfl,hr,hw⟩;subst w1;obtain rfl:r=true:=hr.2 HSh.out;clear hr HS HSh;go_wp2_with fail;refine Calls.mono H1.out ?_;rintro e w1 ⟨r1,rfl,hr1,hb1⟩;have R1:=hid hr1;have B1:=hid hb1;clear hr1 hb1 H1;go_wp2_with fail;refine (H2.out _ B1.out).mono ?_;rintro e w2 ⟨r2,rfl,hr2,hb2⟩;have R2:=hid hr2;have B2:=hid (B1.out.trans (hb2.mono B1.out.size));clear hr2 hb2 H2 B1
 cases r1 with
 |false=>
  go_wp2
  go_ret
  exact⟨rfl,B2.out⟩
 |true=>
  cases r2 with
  |false=>
   go_wp2
   go_ret
   exact⟨rfl,B2.out⟩
  |true=>exact absurd ⟨R1.out.1 rfl,R2.out.1 rfl⟩ HN.out
theorem vF (ao bo:Option Addr) (na ac d nb bc:Nat) (P Qb:Nat→Nat×Nat) (pick:Int) (w:World) (hnb:nb≤4) (hna:na≤100) (hd:d≤5) (hP:BxV w ao na P) (hQ:BxV w bo nb Qb) (wP:Wds na P) (wQ:Wds nb Qb) (hs:Shp na d nb) (hr:eP na P∧eP nb Qb) (hx:dC muX suX quX pvX nb (cY d nb P Qb) (fun _=>(0,0))=none):
  aw 86 #[.slice ao na ac,iV (d:Int),.slice bo nb bc,.slice none 0 0,iV 9,iV pick] w (.bool true):=by
 have HS:=hid (kA ao bo na ac d nb bc w (by omega) hd);have H1:=hid (gV ao na ac P w hP hna wP);have H2:Hid (∀W,Below w.heap.size w W→ax 136 #[.slice bo nb bc] W fun e w'=>∃r,e= .returned (.bool r)∧(r=true↔eP nb Qb)∧Below W.heap.size W w'):=fun W hW=>gV bo nb bc Qb W (hQ.below hW) (by omega) wQ
 have H3:Hid (∀W,Below w.heap.size w W→ax 137 #[.slice ao na ac] W fun e w'=>∃bo bc,e= .returned (.slice bo na bc)∧BxV w' bo na (fun i=>cB (P i))∧Below W.heap.size W w'):=fun W hW=>kx ao na ac P W (hP.below hW) hna wP
 have H4:Hid (∀W,Below w.heap.size w W→ax 137 #[.slice bo nb bc] W fun e w'=>∃bo bc,e= .returned (.slice bo nb bc)∧BxV w' bo nb (fun i=>cB (Qb i))∧Below W.heap.size W w'):=fun W hW=>kx bo nb bc Qb W (hQ.below hW) (by omega) wQ
 have H5:Hid (∀W a1 a2 b1 b2,BxV W a1 na (fun i=>cB (P i))→BxV W b1 nb (fun i=>cB (Qb i))→aw 138 #[.slice a1 na a2,.slice b1 nb b2] W (.bool false)):=fun W a1 a2 b1 b2 h1 h2=>(xp a1 b1 nb na a2 b2 _ _ W h1 h2 (jd hs).1 hnb (fun i hi=>mQ (wP i hi))).mono fun e w' h=>by
  obtain⟨r,rfl,hr',hb'⟩:=h
  cases r with
  |false=>exact⟨rfl,hb'⟩
  |true=>
   obtain⟨g,hg,-⟩:=vY hs wP wQ hr (hr' rfl);rw[hx] at hg
   cases hg
 have HSh:=hid hs;have HN:=hid hr;have hnf:=fun(w:World)=>qC (P:=Tryz.prog) w 61 28 Tryz.underlying61
 clear hs hr hP hQ wP wQ hx;go_enter Tryz.func86,Tryz.ntmps86;go_wp2_with fail;refine Calls.mono HS.out ?_;rintro e w1 ⟨r,rfl,hr,hw⟩;subst w1;obtain rfl:r=true:=hr.2 HSh.out;clear hr HS HSh;go_wp2_with fail;refine Calls.mono H1.out ?_;rintro e w1 ⟨r1,rfl,hr1,hb1⟩;obtain rfl:r1=true:=hr1.2 HN.out.1;have B1:=hid hb1;clear hr1 hb1 H1;go_wp2_with fail;refine (H2.out _ B1.out).mono ?_;rintro e w2 ⟨r2,rfl,hr2,hb2⟩;obtain rfl:r2=true:=hr2.2 HN.out.2;have B2:=hid (B1.out.trans (hb2.mono B1.out.size));clear hr2 hb2 H2 B1 HN;go_wp2_with fail;refine (H3.out _ B2.out).mono ?_;rintro e w3 ⟨a1,a2,rfl,hx3,hb3⟩;have X3:=hid hx3;have B3:=hid (B2.out.trans (hb3.mono B2.out.size));clear hx3 hb3 H3 B2;go_wp2_with fail;refine (H4.out _ B3.out).mono ?_;rintro e w4 ⟨b1,b2,rfl,hx4,hb4⟩;have X3:=hid (X3.out.below hb4);have X4:=hid hx4;have B4:=hid (B3.out.trans (hb4.mono B3.out.size));clear hx4 hb4 H4 B3;go_wp2_with fail;refine (H5.out _ _ _ _ _ X3.out X4.out).mono ?_;rintro e w5 ⟨rfl,hb5⟩;have B5:=hid (B4.out.trans (hb5.mono B4.out.size));clear hb5 H5 B4 X3 X4;go_wp2
 go_ret
 exact⟨rfl,B5.out⟩
theorem F5:(Tryz.prog.fieldsOf 28).toList.map (fun f=>(f.name== "_",f.type,f.offset))=[(false,26,0),(false,26,1)]:=by kernel_rfl
theorem xQ (d:Nat) (w:World) (a b:Int):(Op.equalIn (d+1+1) 28 (.agg #[uV a,uV b]) (.agg #[uV a,uV b])).run Tryz.prog w= .ok true w:=by
 have hu:Tryz.prog.underlying 28=some (.struct (Tryz.prog.fieldsOf 28)):=by kernel_rfl
 rw[run_equalIn_struct w _ _ _ _ hu (by kernel_rfl)];have hf:=F5;generalize(Tryz.prog.fieldsOf 28).toList=fs at hf
 cases fs with
 |nil=>simp at hf
 |cons f1 fs=>
 cases fs with
 |nil=>simp at hf
 |cons f2 fs=>
 cases fs with
 |cons f3 fs=>simp at hf
 |nil=>
  simp at hf;obtain⟨⟨n1,t1,o1⟩,n2,t2,o2⟩:=hf;simp[Op.eqFields,n1,t1,o1,n2,t2,o2,part,run_equalIn_int w d 26 .u64 .u64 _ _ Tryz.underlying26]
theorem Gb (w:World) (a b:Int):(binOp .neq 28 (.agg #[uV a,uV b]) (.agg #[uV a,uV b])).run Tryz.prog w= .ok (.bool false) w:=by
 have h2:(Op.equal 28 (.agg #[uV a,uV b]) (.agg #[uV a,uV b])).run Tryz.prog w= .ok true w:=xQ 9998 w a b;simp[binOp,h2]
theorem AW (ao bo oo:Option Addr) (na ac d nb bc oc:Nat) (P Qb xs:Nat→Nat×Nat) (pick:Int) (w:World) (hnb:nb≤4) (hna:na≤100) (hd:d≤5) (hP:BxV w ao na P) (hQ:BxV w bo nb Qb) (hO:BxV w oo nb xs) (wP:Wds na P) (wQ:Wds nb Qb) (hs:Shp na d nb) (hr:eP na P∧eP nb Qb) (hx:dC muX suX quX pvX nb (cY d nb P Qb) (fun _=>(0,0))=some xs):
  aw 86 #[.slice ao na ac,iV (d:Int),.slice bo nb bc,.slice oo nb oc,iV 0,iV pick] w (.bool true):=by
 have HS:=hid (kA ao bo na ac d nb bc w (by omega) hd);have H1:=hid (gV ao na ac P w hP hna wP);have H2:Hid (∀W,Below w.heap.size w W→ax 136 #[.slice bo nb bc] W fun e w'=>∃r,e= .returned (.bool r)∧(r=true↔eP nb Qb)∧Below W.heap.size W w'):=fun W hW=>gV bo nb bc Qb W (hQ.below hW) (by omega) wQ
 have H3:Hid (∀W,Below w.heap.size w W→ax 137 #[.slice ao na ac] W fun e w'=>∃bo bc,e= .returned (.slice bo na bc)∧BxV w' bo na (fun i=>cB (P i))∧Below W.heap.size W w'):=fun W hW=>kx ao na ac P W (hP.below hW) hna wP
 have H4:Hid (∀W,Below w.heap.size w W→ax 137 #[.slice bo nb bc] W fun e w'=>∃bo bc,e= .returned (.slice bo nb bc)∧BxV w' bo nb (fun i=>cB (Qb i))∧Below W.heap.size W w'):=fun W hW=>kx bo nb bc Qb W (hQ.below hW) (by omega) wQ
 have ixs:=Gt hs wP wQ hx
 have H5:Hid (∀W a1 a2 b1 b2,BxV W a1 na (fun i=>cB (P i))→BxV W b1 nb (fun i=>cB (Qb i))→ax 138 #[.slice a1 na a2,.slice b1 nb b2] W fun e w'=>∃r,e= .returned (.bool r)∧(r=true→∀W,BxV W oo nb xs→aw 140 #[.slice oo nb oc] W (.bool true))∧Below W.heap.size W w'):=fun W a1 a2 b1 b2 h1 h2=>(xp a1 b1 nb na a2 b2 _ _ W h1 h2 (jd hs).1 hnb (fun i hi=>mQ (wP i hi))).mono fun e w' h=>by
  obtain⟨r,rfl,hr',hb'⟩:=h;refine⟨r,rfl,fun hrt W' hW'=>?_,hb'⟩;obtain⟨g,hg,hN⟩:=vY hs wP wQ hr (hr' hrt);rw[hx] at hg
  cases hg
  exact Ai oo nb oc xs W' hW' hnb ixs hN
 have H6:Hid (∀W a1 a2 b1 b2,BxV W a1 na (fun i=>cB (P i))→BxV W b1 nb (fun i=>cB (Qb i))→BxV W oo nb xs→aw 139 #[.slice a1 na a2,.slice b1 nb b2,.slice oo nb oc,iV pick] W (.bool true)):=fun W a1 a2 b1 b2 h1 h2 h3=>D8 a1 b1 oo nb na a2 b2 oc _ _ xs pick W h1 h2 h3 (jd hs).1 hs.1 hnb (fun i hi=>mQ (wP i hi)) (fun i hi=>mQ (wQ i hi)) ixs (DF hs wP wQ hx)
 have HMK:Hid (∀W i,i<nb→aw 27 #[.agg #[uV ((xs i).1:Int),uV ((xs i).2:Int)]] W (.tuple #[.agg #[uV ((xs i).1:Int),uV ((xs i).2:Int)],iV 0])):=fun W i hi=>by
  have h:=jS (xs i).1 (xs i).2 W (ixs i hi).lt1 (ixs i hi).lt2;rw[dm (ixs i hi)] at h;exact h
 have hnb2:=Gb;have HSh:=hid hs;have HN:=hid hr;have HO:=hid hO;clear hs hr hP hQ wP wQ hx hO ixs;go_enter Tryz.func86,Tryz.ntmps86;go_wp2_with fail;refine Calls.mono HS.out ?_;rintro e w1 ⟨r,rfl,hr,hw⟩;subst w1;obtain rfl:r=true:=hr.2 HSh.out;clear hr HS HSh;go_wp2_with fail;refine Calls.mono H1.out ?_;rintro e w1 ⟨r1,rfl,hr1,hb1⟩;obtain rfl:r1=true:=hr1.2 HN.out.1;have B1:=hid hb1;clear hr1 hb1 H1;go_wp2_with fail;refine (H2.out _ B1.out).mono ?_;rintro e w2 ⟨r2,rfl,hr2,hb2⟩;obtain rfl:r2=true:=hr2.2 HN.out.2;have B2:=hid (B1.out.trans (hb2.mono B1.out.size));clear hr2 hb2 H2 B1 HN;go_wp2_with fail;refine (H3.out _ B2.out).mono ?_;rintro e w3 ⟨a1,a2,rfl,hx3,hb3⟩;have X3:=hid hx3;have B3:=hid (B2.out.trans (hb3.mono B2.out.size));clear hx3 hb3 H3 B2;go_wp2_with fail;refine (H4.out _ B3.out).mono ?_;rintro e w4 ⟨b1,b2,rfl,hx4,hb4⟩;have X3:=hid (X3.out.below hb4);have X4:=hid hx4;have B4:=hid (B3.out.trans (hb4.mono B3.out.size));clear hx4 hb4 H4 B3;go_wp2_with fail;refine (H5.out _ _ _ _ _ X3.out X4.out).mono ?_;rintro e w5 ⟨r3,rfl,hna3,hb5⟩;have B5:=hid (B4.out.trans (hb5.mono B4.out.size));have X3:=hid (X3.out.below hb5);have X4:=hid (X4.out.below hb5);have HNR:=hid hna3;clear hb5 H5 B4 hna3;go_wp2_with fail
 go_loopw [17] (fun x wy=>∃i:Nat,i≤nb∧x=iV (i:Int)∧Below w5.heap.size w5 wy) (fun x _=>nb-(intOf x).toNat)
 case atStart=>exact⟨0,Nat.zero_le _,rfl,Below.refl _ _⟩
 case round=>
  obtain⟨i,hi1,rfl,hb⟩:=hrel;have HB:=hid hb;clear hb;by_cases hi:i<nb
  ·obtain⟨g,off,rfl,hg,hc⟩:=HO.out.resolve_left (by omega);obtain⟨c1,c2⟩:=hc i hi;have hbw:=B5.out.trans (HB.out.mono B5.out.size)
   have HCL:Hid (∀W:World,Below wr.heap.size wr W→W.cell? ⟨g,off+i*2,none⟩=some (uV ((xs i).1:Int))∧W.cell? ⟨g,off+i*2+1,none⟩=some (uV ((xs i).2:Int))∧g<W.heap.size):=fun W hW=>by
    have h:=hbw.trans (hW.mono hbw.size);exact⟨by rw[h.cell (by exact hg)];exact c1,by rw[h.cell (by exact hg)];exact c2,Nat.lt_of_lt_of_le hg h.size⟩
   have HMi:Hid (∀W,aw 27 #[.agg #[uV ((xs i).1:Int),uV ((xs i).2:Int)]] W (.tuple #[.agg #[uV ((xs i).1:Int),uV ((xs i).2:Int)],iV 0])):=fun W=>HMK.out W i hi
   generalize(xs i).1=y1 at*;generalize(xs i).2=y2 at*;clear hc hg c1 c2 hbw;obtain⟨c1,c2,hgl⟩:=HCL.out wr aK;go_wp2_with fail;refine (HMi.out _).mono ?_;rintro e w6 ⟨rfl,hb6⟩;clear c1 c2 hgl;obtain⟨c1,c2,hgl⟩:=HCL.out w6 hb6;have hB6:=HB.out.trans (hb6.mono HB.out.size);have ha:=hB6.alloc hB6.size (.cells #[nV y1,nV y2] 28);have HB6:=hid ha.drew;clear hb6 hB6 ha HMi HNR H6 X3 X4;go_wp2_with fail;go_region
   all_goals go_wp2
   all_goals go_roundw
   all_goals first|exact⟨i+1,by omega,by go_num,HB6.out⟩|(simp[intOf];omega)
  ·have X5:=hid (X3.out.below HB.out);have X6:=hid (X4.out.below HB.out);have hbw:=B5.out.trans (HB.out.mono B5.out.size);have X7:=hid (HO.out.below hbw);have B7:=hid hbw;clear hbw X3 X4 HB B5 HMK;go_wp2_with fail;refine (H6.out _ _ _ _ _ X5.out X6.out X7.out).mono ?_;rintro e w7 ⟨rfl,hb7⟩;have B8:=hid (B7.out.trans (hb7.mono B7.out.size));have X8:=hid (X7.out.below hb7);clear hb7 H6 X5 X6 X7 B7
   cases r3 with
   |false=>
    go_wp2
    go_ret
    exact⟨rfl,B8.out⟩
   |true=>
    go_wp2_with fail;refine (HNR.out (by first|rfl|trivial) _ X8.out).mono ?_;rintro e w9 ⟨rfl,hb9⟩;have B9:=hid (B8.out.trans (hb9.mono B8.out.size));clear hb9 B8 X8 HNR;go_wp2
    go_ret
    exact⟨rfl,B9.out⟩
theorem nO (n:Int):(BitVec.ofInt 64 n).toNat=(n % 18446744073709551616).toNat:=by
 rw[BitVec.toNat_ofInt];rfl
theorem Fy (n:Int):bits .and .i64 n 1=n % 2:=by
 show IntKind.i64.wrap ((BitVec.ofInt 64 n &&& BitVec.ofInt 64 1).toNat:Int)=_
 rw[BitVec.toNat_and,nO,nO,IntKind.wrap_i64,show((1:Int) % 18446744073709551616).toNat=1 by decide];have:(n % 18446744073709551616).toNat &&& 1=(n % 18446744073709551616).toNat % 2:=Nat.and_two_pow_sub_one_eq_mod _ 1;rw[this];omega
theorem yU (n:Int):bits .and .i64 n 3=n % 4:=by
 show IntKind.i64.wrap ((BitVec.ofInt 64 n &&& BitVec.ofInt 64 3).toNat:Int)=_
 rw[BitVec.toNat_and,nO,nO,IntKind.wrap_i64,show((3:Int) % 18446744073709551616).toNat=3 by decide];have:(n % 18446744073709551616).toNat &&& 3=(n % 18446744073709551616).toNat % 4:=Nat.and_two_pow_sub_one_eq_mod _ 2;rw[this];omega
theorem Co (ao bo oo:Option Addr) (na ac d nb bc len oc k:Nat) (P Qb xs:Nat→Nat×Nat) (pick:Int) (w:World) (hi:sd na d nb P Qb k len xs) (hnb:nb<4611686018427387904) (hna:na≤100) (hd:d≤5) (hP:BxV w ao na P) (hQ:BxV w bo nb Qb) (hO:BxV w oo len xs) (wP:Wds na P) (wQ:Wds nb Qb) (hz:len=0→oo=none∧oc=0):
  aw 86 #[.slice ao na ac,iV (d:Int),.slice bo nb bc,.slice oo len oc,iV (k:Int),iV pick] w (.bool true):=by
 rcases hi with⟨hs,rfl,rfl⟩|⟨hs,⟨ho,rfl,rfl⟩|⟨hno,⟨hx,rfl,rfl⟩|⟨hx,rfl,rfl⟩⟩⟩
 ·obtain⟨rfl,rfl⟩:=hz rfl;exact yd ao bo na ac d nb bc pick w hnb hd hs
 ·obtain⟨rfl,rfl⟩:=hz rfl;refine yi ao bo na ac d nb bc P Qb pick w hs.2.1 hna hd hP hQ wP wQ hs fun hr=>?_
  obtain⟨y,x,hy,hx,h⟩:=ho;rw[(oQ hs wP wQ).2 hr y x hy hx] at h
  cases h
 ·obtain⟨rfl,rfl⟩:=hz rfl;exact vF ao bo na ac d nb bc P Qb pick w hs.2.1 hna hd hP hQ wP wQ hs ((oQ hs wP wQ).1 hno) hx
 ·exact AW ao bo oo na ac d len bc oc P Qb xs pick w hs.2.1 hna hd hP hQ hO wP wQ hs ((oQ hs wP wQ).1 hno) hx
theorem BxV.take {W:World} {ao:Option Addr} {n m:Nat} {xs:Nat→Nat×Nat} (h:BxV W ao n xs) (hm:m≤n):BxV W ao m xs:=by
 rcases h with h|⟨g,off,e,hg,h⟩
 ·exact .inl (by omega)
 ·exact .inr ⟨g,off,e,hg,fun i hi=>h i (by omega)⟩
theorem BxV.drop {W:World} {g off n m:Nat} {xs:Nat→Nat×Nat} (h:BxV W (some ⟨g,off,none⟩) n xs) (hm:m≤n):BxV W (some ⟨g,off+m*2,none⟩) (n-m) (fun i=>xs (m+i)):=by
 rcases h with h|⟨g',off',e,hg,h⟩
 ·exact .inl (by omega)
 ·cases e
  refine .inr ⟨g,off+m*2,rfl,hg,fun i hi=>?_⟩;have:=h (m+i) (by omega);rw[show off+(m+i)*2=off+m*2+i*2 by omega] at this;exact this
theorem BxV.dropO {W:World} {ao:Option Addr} {n m c:Nat} {xs:Nat→Nat×Nat} (h:BxV W ao n xs) (hm:m≤n) (hc:n≤c):BxV W (if c=m then ao else Option.map (fun x=>x.add (m*2)) ao) (n-m) (fun i=>xs (m+i)):=by
 by_cases hcm:c=m
 ·exact .inl (by omega)
 ·rw[if_neg hcm];rcases id h with h0|⟨g,off,rfl,-⟩
  ·exact .inl (by omega)
  ·have e:(Addr.mk g off none).add (m*2)=⟨g,off+m*2,none⟩:=by
    by_cases h0:m=0
    ·subst h0;simp[Addr.add]
    ·simp[Addr.add];omega
   rw[Option.map_some,e];exact h.drop hm
theorem Ae (A:Nat→Addr) (a b:Int) (s:ByteArray) (xl xh yl yh:Nat) (po:Option Addr) (n pc:Nat) (ps:Nat→Nat) (w:World) (hS:aE A w) (hw:WdV w po n ps) (hn:n*8≤140737488355328):
  aw 39 #[.agg #[Value.int IntKind.i64 7,Value.int IntKind.i64 a,Value.int IntKind.i64 b,Value.string s,Value.int IntKind.u64 (xl:Int),Value.int IntKind.u64 (xh:Int),Value.int IntKind.u64 (yl:Int),Value.int IntKind.u64 (yh:Int),Value.slice po n pc]] w (.bool true):=by
 have HB0:Hid (∀W,Below w.heap.size w W→ax 83 #[.slice po n pc] W fun e w'=>∃bo bc,e= .returned (.slice bo (n / 2) bc)∧BxV w' bo (n / 2) (fun i=>(ps (i*2),ps (i*2+1)))∧n / 2≤bc∧Below W.heap.size W w'):=fun W hW=>Bo po n pc ps W (hw.below hW) hn
 have WD:Hid (Wds (n / 2) (fun i=>(ps (i*2),ps (i*2+1)))):=fun i hi=>⟨hw.1 _ (by omega),hw.1 _ (by omega)⟩
 have HS:=hid hS;generalize(fun i=>(ps (i*2),ps (i*2+1)))=F at*;have hN:n / 2*16≤140737488355328:=by omega
 generalize n / 2=N at*;clear hS hw hn;go_enter Tryz.func39,Tryz.ntmps39;go_wp2_with fail;have m1:Hid (LSt w (w.alloc (.cells #[iV 7,iV a,iV b,.string s,nV xl,nV xh,nV yl,nV yh,.slice po n pc] 31)) #[Value.int IntKind.i64 7,Value.int IntKind.i64 a,Value.int IntKind.i64 b,Value.string s,Value.int IntKind.u64 (xl:Int),Value.int IntKind.u64 (xh:Int),Value.int IntKind.u64 (yl:Int),Value.int IntKind.u64 (yh:Int),Value.slice po n pc]):=⟨af w _,aK.alloc ae _,by simp⟩;generalize(w.alloc (.cells #[iV 7,iV a,iV b,.string s,nV xl,nV xh,nV yl,nV yh,.slice po n pc] 31))=W2 at*;refine (HB0.out _ m1.out.hb).mono ?_;rintro e w1 ⟨lo,lc,rfl,hx,hlc,hb1⟩;have m1:=hid (m1.out.below hb1);have BX:=hid hx;clear hb1 hx HB0;obtain⟨-,q1,q2,-,-,-,-,-,-⟩:=qH m1.out.k0;have hlt:=ag m1.out.k0;obtain⟨aout,haout⟩:∃r:Bool,r=(decide (a<0)||decide (a>5)):=⟨_,rfl⟩;have HAO:=hid haout;clear haout
 go_upto_region 3 with fail
 go_cut [26] (fun s26 wc=>s26= .bool aout∧wc=w1)
 case first=>
  by_cases g1:a<0
  ·have g1':decide (a<0)=true:=decide_eq_true g1;go_wp2_with fail;go_meet;exact⟨by rw[HAO.out,g1'];rfl,rfl⟩
  ·have g1':decide (a<0)=false:=decide_eq_false g1;by_cases g2:a>5
   ·have g2':decide (a>5)=true:=decide_eq_true g2;go_wp2_with fail;go_meet;exact⟨by rw[HAO.out,g1',g2'];rfl,rfl⟩
   ·have g2':decide (a>5)=false:=decide_eq_false g2;go_wp2_with fail;go_meet;exact⟨by rw[HAO.out,g1',g2'];rfl,rfl⟩
 case rest=>
 obtain⟨rfl,hw⟩:=hcut;subst wc
 go_upto_if 26 with fail
 go_cut [4] (fun s4 wc=>∃m:Nat,m≤5∧s4=iV (m:Int)∧wc=w1)
 case first=>
  cases aout with
  |true=>
   go_wp2_with fail;go_meet;exact⟨2,by omega,rfl,rfl⟩
  |false=>
   have h0:¬a<0∧¬a>5:=by
    have:=HAO.out;rw[eq_comm,Bool.or_eq_false_iff,decide_eq_false_iff_not,decide_eq_false_iff_not] at this;exact this
   go_wp2_with fail;go_meet;exact⟨a.toNat,by omega,by rw[Int.toNat_of_nonneg (by omega)],rfl⟩
 case rest=>
  obtain⟨m,hm,rfl,hw⟩:=hcut;subst wc;have hmm:(m:Int)*(m:Int)=((m*m:Nat):Int):=by simp
  have hm2:m*m≤25:=Nat.mul_le_mul hm hm;have hm0:Hid (m=0→m*m=0):=fun h=>by rw[h]
  generalize m*m=mm at*
  go_upto_if 33 with fail
  go_cut [5] (fun s5 wc=>∃k0:Nat,k0≤N∧k0≤mm∧s5=iV (k0:Int)∧wc=w1)
  case first=>
   by_cases g1:N<mm
   ·have g1':decide ((mm:Int)>(N:Int))=true:=decide_eq_true (by omega);have g1'':decide ((N:Int)<(mm:Int))=true:=decide_eq_true (by omega);go_wp2_with fail;go_meet;exact⟨N,by omega,by omega,rfl,rfl⟩
   ·have g1':decide ((mm:Int)>(N:Int))=false:=decide_eq_false (by omega);have g1'':decide ((N:Int)<(mm:Int))=false:=decide_eq_false (by omega);go_wp2_with fail;go_meet;exact⟨mm,by omega,by omega,rfl,rfl⟩
  case rest=>
   obtain⟨k0,hk1,hk2,rfl,hw⟩:=hcut;subst wc
   go_upto_if 40 with fail
   go_cut [5,6] (fun s5 s6 wc=>∃K D:Nat,K≤N∧K≤25∧D≤5∧(D=0→K=0)∧s5=iV (K:Int)∧s6=iV (D:Int)∧wc=w1)
   case first=>
    cases hb7:(bits BinOp.and IntKind.i64 b 7==7) with
    |false=>
     go_wp2_with fail;go_meet;exact⟨k0,m,by omega,by omega,hm,fun h=>by have:=hm0.out h;omega,rfl,rfl,rfl⟩
    |true=>
     have l8:=yU (b / 8);have l32:=yU (b / 32);have l128:=Fy (b / 128);have ha:∃d:Nat,d≤3∧b / 8 % 4=(d:Int):=⟨(b / 8 % 4).toNat,by omega,by omega⟩;have he:∃d:Nat,d≤3∧b / 32 % 4=(d:Int):=⟨(b / 32 % 4).toNat,by omega,by omega⟩;have hc:∃d:Nat,d≤1∧b / 128 % 2=(d:Int):=⟨(b / 128 % 2).toNat,by omega,by omega⟩;obtain⟨d1,hd1,ed⟩:=ha;obtain⟨e1,he1,ee⟩:=he;obtain⟨c1,hc1,ec⟩:=hc;rw[ed] at l8;rw[ee] at l32;rw[ec] at l128;clear ed ee ec;have hmul:(1+(d1:Int))*(1+(e1:Int))=(((1+d1)*(1+e1):Nat):Int):=by simp
     have hm16:(1+d1)*(1+e1)≤4*4:=Nat.mul_le_mul (by omega) (by omega);have hm1:1≤(1+d1)*(1+e1):=Nat.mul_pos (by omega) (by omega);generalize(1+d1)*(1+e1)=pr at*;have hcn:(pr:Int)-(c1:Int)=((pr-c1:Nat):Int):=by omega
     have hpn:pr-c1≤16:=by omega
     generalize pr-c1=pk at*;by_cases g1:N<pk
     ·have g1':decide ((pk:Int)>(N:Int))=true:=decide_eq_true (by omega);have g1'':decide ((N:Int)<(pk:Int))=true:=decide_eq_true (by omega);go_wp2_with fail;go_meet;exact⟨N,1+d1,by omega,by omega,by omega,fun h=>by omega,rfl,by simp,rfl⟩
     ·have g1':decide ((pk:Int)>(N:Int))=false:=decide_eq_false (by omega);have g1'':decide ((N:Int)<(pk:Int))=false:=decide_eq_false (by omega);go_wp2_with fail;go_meet;exact⟨pk,1+d1,by omega,by omega,by omega,fun h=>by omega,rfl,by simp,rfl⟩
   case rest=>
    obtain⟨K,D,hK1,hK2,hD,hD0,rfl,rfl,hw⟩:=hcut;subst wc;obtain⟨k,len,xs,hi⟩:=Es K D (N-K) F (fun i=>F (K+i))
    have hlen:len≤4:=by
     rcases hi with⟨-,-,rfl⟩|⟨hs,⟨-,-,rfl⟩|⟨-,⟨-,-,rfl⟩|⟨-,-,rfl⟩⟩⟩
     ·omega
     ·omega
     ·omega
     ·exact hs.2.1
    have BB:=hid (BX.out.dropO hK1 hlc);have BA:=hid (BX.out.take hK1);have WA:Hid (Wds K F):=fun i hi=>WD.out i (by omega)
    have WB:Hid (Wds (N-K) (fun i=>F (K+i))):=fun i hi=>WD.out (K+i) (by omega)
    have SI:=hid hi;clear hi BX WD
    go_upto_region 16 with fail
    generalize(if lc=K then lo else Option.map (fun x=>x.add (K*2)) lo)=bo2 at*;have HGA:Hid (∀W,Below w1.heap.size w1 W→ax 84 #[.slice lo K lc] W fun e w'=>∃bo bc,e= .returned (.slice bo K bc)∧BxV w' bo K F∧Below W.heap.size W w'):=fun W hW=>un lo K lc F W (BA.out.below hW) (by omega)
    have HGB:Hid (∀W,Below w1.heap.size w1 W→ax 84 #[.slice bo2 (N-K) (lc-K)] W fun e w'=>∃bo bc,e= .returned (.slice bo (N-K) bc)∧BxV w' bo (N-K) (fun i=>F (K+i))∧Below W.heap.size W w'):=fun W hW=>un bo2 (N-K) (lc-K) _ W (BB.out.below hW) (by omega)
    have HPS:Hid (∀W p1 p2 p3 p4,Below w1.heap.size w1 W→BxV W p1 K F→BxV W p3 (N-K) (fun i=>F (K+i))→ax 24 #[.slice p1 K p2,iV (D:Int),.slice p3 (N-K) p4] W fun e w'=>∃oo oc,e= .returned (.tuple #[.slice oo len oc,iV (k:Int)])∧BxV w' oo len xs∧len≤oc∧(len=0→oo=none∧oc=0)∧Below W.heap.size W w'):=fun W p1 p2 p3 p4 hW h1 h2=>tz A p1 p3 K p2 D (N-K) p4 F _ k len xs W (HS.out.below (m1.out.hb.trans (hW.mono m1.out.hb.size)) ae) h1 h2 SI.out hD hD0 (by omega) (by omega) WA.out WB.out
    have HTK:Hid (∀W p1 p2,BxV W p1 len xs→ax 85 #[.slice p1 len p2] W fun e w'=>∃bo bc,e= .returned (.slice bo len bc)∧BxV w' bo len xs∧len≤bc∧(len=0→bo=none∧bc=0)∧Below W.heap.size W w'):=fun W p1 p2 h=>A6 p1 len p2 xs W h (by omega)
    have HLS:Hid (∀W p1 p2 p3 p4,BxV W p1 len xs→BxV W p3 len xs→len≤p4→aw 38 #[.slice p1 len p2,.slice p3 len p4,iV 0] W (.bool true)):=fun W p1 p2 p3 p4 h1 h2 h3=>mS p1 p3 len len p2 p4 xs xs 0 W h1 h2 h3 (by omega) (fun h=>absurd h (by decide)) (fun _=>rfl) (fun _ _=>rfl)
    have HJG:Hid (∀W p1 p2 pick,Below w1.heap.size w1 W→BxV W p1 len xs→(len=0→p1=none∧p2=0)→aw 86 #[.slice lo K lc,iV (D:Int),.slice bo2 (N-K) (lc-K),.slice p1 len p2,iV (k:Int),iV pick] W (.bool true)):=fun W p1 p2 pick hW h1 h2=>Co lo bo2 p1 K lc D (N-K) (lc-K) len p2 k F _ xs pick W SI.out (by omega) (by omega) hD (BA.out.below hW) (BB.out.below hW) h1 WA.out WB.out h2
    have B0:Hid (Below w1.heap.size w1 w1):=Below.refl _ _;clear BA BB WA WB SI q1 q2 hlt hmm hm2 hm hk1 hk2 hD0;go_wp2_with fail;refine (HGA.out _ B0.out).mono ?_;rintro e w2 ⟨p1,p2,rfl,hx1,hb2⟩;have X1:=hid hx1;have B2:=hid hb2;clear hx1 hb2 B0;go_wp2_with fail;refine (HGB.out _ B2.out).mono ?_;rintro e w3 ⟨p3,p4,rfl,hx3,hb3⟩;have X1:=hid (X1.out.below hb3);have X3:=hid hx3;have B3:=hid (B2.out.trans (hb3.mono B2.out.size));clear hx3 hb3 B2;go_wp2_with fail;refine (HPS.out _ _ _ _ _ B3.out X1.out X3.out).mono ?_;rintro e w4 ⟨o1,o2,rfl,hx4,ho1,ho2,hb4⟩;have X4:=hid hx4;have B4:=hid (B3.out.trans (hb4.mono B3.out.size));clear hx4 ho1 ho2 hb4 B3 X1 X3;go_wp2_with fail;refine (HGA.out _ B4.out).mono ?_;rintro e w5 ⟨r1,r2,rfl,hx5,hb5⟩;have X4:=hid (X4.out.below hb5);have X5:=hid hx5;have B5:=hid (B4.out.trans (hb5.mono B4.out.size));clear hx5 hb5 B4 HGA;go_wp2_with fail;refine (HGB.out _ B5.out).mono ?_;rintro e w6 ⟨r3,r4,rfl,hx6,hb6⟩;have X4:=hid (X4.out.below hb6);have X5:=hid (X5.out.below hb6);have X6:=hid hx6;have B6:=hid (B5.out.trans (hb6.mono B5.out.size));clear hx6 hb6 B5 HGB;go_wp2_with fail;refine (HPS.out _ _ _ _ _ B6.out X5.out X6.out).mono ?_;rintro e w7 ⟨y1,y2,rfl,hx7,hy1,hy2,hb7⟩;have X4:=hid (X4.out.below hb7);have X7:=hid hx7;have B7:=hid (B6.out.trans (hb7.mono B6.out.size));clear hx7 hy1 hy2 hb7 B6 X5 X6 HPS;go_wp2_with fail;refine (HTK.out _ _ _ X4.out).mono ?_;rintro e w8 ⟨t1,t2,rfl,hx8,ht1,ht2,hb8⟩;have X7:=hid (X7.out.below hb8);have X8:=hid hx8;have T1:=hid ht1;have T2:=hid ht2;have B8:=hid (B7.out.trans (hb8.mono B7.out.size));clear hx8 ht1 ht2 hb8 B7 X4 HTK;go_wp2_with fail;refine (HLS.out _ _ _ _ _ X7.out X8.out T1.out).mono ?_;rintro e w9 ⟨rfl,hb9⟩;have X8:=hid (X8.out.below hb9);have B9:=hid (B8.out.trans (hb9.mono B8.out.size));have m9:=hid (m1.out.below B9.out);clear hb9 B8 X7 HLS T1;obtain⟨-,q1,q2,-,-,-,-,-,-⟩:=qH m9.out.k0;have hlt:=ag m9.out.k0;go_wp2_with fail;refine (HJG.out _ _ _ _ B9.out X8.out T2.out).mono ?_;rintro e w10 ⟨rfl,hb10⟩;have HBF:=hid (m9.out.hb.trans (hb10.mono m9.out.hb.size));clear hb10 HJG B9 X8 T2 m1 q1 q2 hlt;have hkk:((k:Int)==(k:Int))=true:=by simp
    go_wp2
    go_ret
    exact⟨rfl,HBF.out⟩
end
section
open Go.RowKit
theorem pS (A:Nat→Addr) (a b:Int) (s:ByteArray) (xl xh yl yh:Nat) (po:Option Addr) (n pc:Nat) (ps:Nat→Nat) (w:World) (hS:aE A w) (hw:WdV w po n ps) (hn:n*8≤140737488355328):
  aw 18 #[.agg #[Value.int IntKind.i64 7,Value.int IntKind.i64 a,Value.int IntKind.i64 b,Value.string s,Value.int IntKind.u64 (xl:Int),Value.int IntKind.u64 (xh:Int),Value.int IntKind.u64 (yl:Int),Value.int IntKind.u64 (yh:Int),Value.slice po n pc]] w (.bool true):=by
 have HB:Below w.heap.size w (w.alloc (.cells #[iV 7,iV a,iV b,.string s,nV xl,nV xh,nV yl,nV yh,.slice po n pc] 31)):=aK.alloc ae _;have HP:=hid (Ae A a b s xl xh yl yh po n pc ps (w.alloc (.cells #[iV 7,iV a,iV b,.string s,nV xl,nV xh,nV yl,nV yh,.slice po n pc] 31)) (hS.below HB ae) (hw.below HB) hn);have HBH:=hid HB;clear hS hw hn HB;go_enter Tryz.func18,Tryz.ntmps18;go_wp2_with fail;refine Calls.mono HP.out ?_;rintro e w1 ⟨rfl,hb1⟩;have HBF:=hid (HBH.out.trans (hb1.mono HBH.out.size));clear hb1 HP HBH;go_wp2
 go_ret
 exact⟨rfl,HBF.out⟩
theorem Hf (A:Nat→Addr) (z:bW) (P:Nat→Nat→Nat) (ao:Option Addr) (n c:Nat) (w:World) (hn:n≤1466015503701) (hS:aE A w)
  (hz:n=0∨∃g off,ao=some ⟨g,off,none⟩∧g<w.heap.size∧z.at w g off n) (hP:∀i,i<n→WdV w (z.po i) (z.pl i) (P i)∧z.pl i*8≤140737488355328):
  aw 11 #[.slice ao n c] w (.bool true):=by
 have HU:=lW A z ao n c 7 7 w hn hS hz (fun i hi h1 h2 W hb hW=>by
  have hk:z.k i=7:=by omega
  unfold bW.val;rw[hk];obtain⟨p1,p2⟩:=hP i hi;exact pS A (z.a i) (z.b i) _ _ _ _ _ _ _ _ (P i) W hW (p1.below hb) p2)
 clear hz hS hn hP;have HU:Hid (aw 14 #[.slice ao n c,iV 7,iV 7] w (iV (-1))):=HU;go_enter Tryz.func11,Tryz.ntmps11;go_wp2_with fail;refine Calls.mono HU.out ?_;rintro e w1 ⟨rfl,hb1⟩;clear HU;go_wp2
 go_ret
 exact⟨rfl,hb1⟩
theorem FF (A:Nat→Addr) (z:bW) (P:Nat→Nat→Nat) (ao:Option Addr) (n c:Nat) (w:World) (hn:n≤1466015503701) (hS:aE A w)
  (hz:n=0∨∃g off,ao=some ⟨g,off,none⟩∧g<w.heap.size∧z.at w g off n)
  (hx:∀i,i<n→(z.xl i<18446744073709551616∧z.xh i<18446744073709551616)∧(z.yl i<18446744073709551616∧z.yh i<18446744073709551616)∧(-9223372036854775808≤z.a i∧z.a i<9223372036854775808)∧(-9223372036854775808≤z.b i∧z.b i<9223372036854775808))
  (hP:∀i,i<n→WdV w (z.po i) (z.pl i) (P i)∧z.pl i*8≤140737488355328):
  aw 13 #[.slice ao n c] w (.bool true):=by
 have HU:=lW A z ao n c 1 7 w hn hS hz (fun i hi h1 h2 W hb hW=>by
  obtain⟨⟨x1,x2⟩,⟨x3,x4⟩,-,b1,b2⟩:=hx i hi;obtain⟨p1,p2⟩:=hP i hi;have hk:z.k i=1∨z.k i=2∨z.k i=3∨z.k i=4∨z.k i=5∨z.k i=6∨z.k i=7:=by omega
  unfold bW.val;rcases hk with hk|hk|hk|hk|hk|hk|hk
  ·rw[hk];exact rJ A _ _ _ _ _ _ _ _ _ _ W x1 x2 hW
  ·rw[hk];exact xB A _ _ _ _ _ _ _ _ _ _ _ _ _ _ W hW (fun W hS=>qj A _ _ _ _ _ W hS x1 x2 x3 x4 _ _ _ _ rfl rfl rfl rfl _ rfl) (fun W=>kh _ _ _ _ _ W x1 x2 x3 x4 _ _ _ _ rfl rfl rfl rfl _ rfl)
  ·rw[hk];exact p6 A _ _ _ _ _ _ _ _ _ _ _ _ _ _ W hW (fun W hS=>mC A _ _ _ _ _ x1 x2 x3 x4 W hS _ _ _ _ rfl rfl rfl rfl _ rfl) (fun W=>oq _ _ _ _ _ x1 x2 x3 x4 W _ _ _ _ rfl rfl rfl rfl _ rfl)
  ·rw[hk];exact qe A _ _ _ _ _ _ _ _ _ _ W b1 b2 hW
  ·rw[hk];exact rO A _ _ _ _ _ _ _ _ _ _ (P i) _ _ _ _ W hW (p1.below hb) p2 (fun W bo bc hS h=>nT A bo _ bc (P i) _ _ W hS h p2 x1 x2 _ _ rfl rfl _ rfl) (fun W bo bc h=>ma bo _ bc (P i) _ _ W h p2 x1 x2 _ _ rfl rfl _ rfl)
  ·rw[hk];exact oJ A (z.a i) (z.b i) _ (z.xl i) (z.xh i) _ _ _ _ _ (P i) W hW (p1.below hb) p2 x1 x2
  ·rw[hk];exact pS A (z.a i) (z.b i) _ _ _ _ _ _ _ _ (P i) W hW (p1.below hb) p2)
 clear hz hx hS hn hP;have HU:Hid (aw 14 #[.slice ao n c,iV 1,iV 7] w (iV (-1))):=HU;go_enter Tryz.func13,Tryz.ntmps13;go_wp2_with fail;refine Calls.mono HU.out ?_;rintro e w1 ⟨rfl,hb1⟩;clear HU;go_wp2
 go_ret
 exact⟨rfl,hb1⟩
end
section
open Go.ChangeShapes Go.WideShapes Go.ChangeAt Go.RowKit Go.Deep
theorem BU:ownKnob Tryz.prog.godebug=none:=by kernel_rfl
theorem uJ:laidOutB Tryz.prog=true:=by kernel_rfl
theorem uI:Tryz.prog.bytesOf 31=96:=by kernel_rfl
theorem sN:Tryz.prog.readableRec 22=true:=by kernel_rfl
theorem wM (os:Os) (args:Array Value):laidMetH Tryz.prog Rows.allRow.laid ((World.doorLaid Tryz.prog 187 os).forCall (fun _ _=>0) ⟨#[],args,[]⟩).memory:=
 laidMetH_of_parts3 (fuel:=8) (laidMet_of_run' 8 (by kernel_rfl) (by kernel_rfl)) (by kernel_rfl) (by kernel_rfl)
theorem DG {W:World} (h:laidMetH Tryz.prog Rows.allRow.laid W):∃A,aE A W:=by
 have h':laidMet Tryz.prog Be W∧handlesMet Tryz.prog zE W:=h;exact uG h'.1 h'.2
theorem zZ (os:Os) (started:os.Started) (H:Type) (enc:TypeId×Value→H):
  ReturnsInHanded {} Tryz.checked os 13 .any (fun w args=>(Rows.allSpec.pre enc Tryz.prog Tryz.f13 [] false w args∧laidMetH Tryz.prog Rows.allRow.laid w)∧sizedMet enc Tryz.prog Tryz.f13 (OpenSpec.ofChange Rows.allSpec) false w args)
   (Rows.allSpec.post enc Tryz.prog Tryz.f13 false true false false):=by
 refine returnsInHanded_of_change_and (C:=Tryz.checked) (X:=fun w _=>laidMetH Tryz.prog Rows.allRow.laid w) (fun _ _ _ hh h=>h.of_heap hh) BU started (by kernel_rfl) Tryz.func13
  (ChangeSpec.witness_shaped (enc:=enc) (C:=Tryz.checked) (os:=os) (X:=fun w _=>laidMetH Tryz.prog Rows.allRow.laid w) false (World.doorLaid Tryz.prog 187 os) #[.slice none 0 0] 8 rfl (World.shaped_of_RefB (by kernel_rfl) (by kernel_rfl)) (by kernel_rfl) (by kernel_rfl) (by kernel_rfl) (wM os _)) ?_
 intro W base args ds gs before hval0 hW _ hsz0 hL _;have hval:∀(j:Nat) t v,Tryz.f13.params[j]?=some t→args[j]?=some v→Value.okWide Tryz.prog W .any base t v:=hval0;have hW':=hW;obtain⟨p,q,hA0,hV,rfl,hfz,hnd⟩:=hW;have hA:DataW.TrodAll enc Tryz.prog W 0 (fun _=>true) true Tryz.f13.params.toList args.toList ds p:=hA0;have hsz:(DataW.weightsEach Tryz.prog (Tryz.f13.params.toList++Rows.allSpec.plain.varTypes Tryz.prog) (ds++gs)).all (·≤reachBytes)=true:=hsz0;rw[Tryz.params13] at hA hval hsz;obtain⟨v0,d0,hargs,rfl,h0⟩:=trodAll_one hA;obtain⟨rfl,rfl⟩:=trodVars_none hV;obtain⟨A,hS⟩:=DG hL
 obtain rfl:args=#[v0]:=by
  obtain⟨l⟩:=args;simpa using hargs
 have hlt:∀x∈p,x.block<W.heap.size:=fun x hx=>by simpa using hW'.lt x (by simpa using hx)
 have h0k:=h0;obtain⟨fuel,hf⟩:=h0;obtain⟨z,ao,n,c,rfl,hz,hx,hd⟩:=Ca hf (okWide_slice Tryz.underlying22 (hval 0 22 v0 rfl rfl))
 have hn:n≤1466015503701:=by
  rcases hd with⟨_,h⟩|⟨es,sp,rfl,hlen⟩
  ·omega
  ·have:=sized_slice hsz (j:=0) (t:=22) (e:=31) rfl rfl Tryz.underlying22;rw[uI] at this;simp only[reachBytes] at this;omega
 have hPx:∀i,i<n→∃q:Nat→Nat,WdV W (z.po i) (z.pl i) q∧z.pl i*8≤140737488355328:=by
  intro i hi;obtain⟨g,off,rfl,hg,hat⟩:=hz.resolve_left (by omega);obtain⟨-,-,-,-,-,-,-,-,c8⟩:=hat i hi;obtain⟨⟨q,hq⟩,hk⟩:=vg hf hi c8;refine⟨q,hq,?_⟩;rcases hk with h0|⟨k,hk,hle⟩
  ·omega
  ·have:=List.all_eq_true.1 hsz k (DataW.weights_mem_each (j:=0) (t:=22) (d:=d0) rfl rfl k hk);have h2:k≤reachBytes:=by simpa using this
   simp only[reachBytes] at h2;omega
 obtain⟨P,hP⟩:=choose_lt hPx;refine(FF A z P ao n c W hn hS hz hx hP).mono fun e W' ⟨he,hb⟩=>?_
 subst he;have e1:Rows.allSpec.fn H ([d0]++[])={results:=[.lit (.bool true)],args:=[d0]}:=by simp[Rows.allSpec]
 refine⟨_,rfl,_,_,_,[],p,[],hW',?_,?_,?_,hb.frame _,fun h=>by cases h⟩
 ·rw[e1];exact trodAll_mk1 (shut_bool Tryz.underlying4 true)
 ·rw[e1];exact trodAll_mk1 (Below.trod uJ sN (of_decide_eq_true (by kernel_rfl)) h0k hb hlt)
 ·rw[e1];rfl
theorem CU:Rows.AllSaid:=
 OpenClaim.holds_of_wide 13 Tryz.f13 rfl rfl rfl rfl rfl rfl rfl ⟨rfl,rfl,rfl,rfl,rfl⟩ rfl rfl rfl rfl rfl (by kernel_rfl) Tryz.func13 (by kernel_rfl)
  (of_decide_eq_true (by kernel_rfl)) (by unfold Func.isWrapper;rw[if_neg (of_decide_eq_false (by kernel_rfl))];exact⟨rfl,rfl⟩)
  (fun os started H enc _=>zZ os started H enc)
theorem all_card:Rows.AllCardSaid:=
 Claim7.holds_tied_plain_at .later [] _ _ _ _ CU (fun _ h=>by cases h) (by kernel_rfl) (fun _ h=>by cases h) all_row_tie rfl ⟨rfl,rfl⟩ (by kernel_rfl) rfl
  (fun f fn hf hfn=>by
    obtain rfl:f=13:=Option.some.inj ((show Tryz.prog.funcNamed "enclose/encloselaw.All" =some 13 by kernel_rfl).symm.trans hf)|>.symm;obtain rfl:fn=Tryz.f13:=(Option.some.inj (Tryz.func13.symm.trans hfn)).symm
    exact⟨by kernel_rfl,fun j t ht=>by
     rw[Tryz.params13] at ht
     have h3:t=22:=by
      rcases j with _|j
      ·simpa using ht.symm
      ·simp at ht
     subst h3;exact(show Tryz.prog.wantsStandIn 22=false by kernel_rfl)⟩)
  (by kernel_rfl)
#print axioms all_card
end
end Go.Proofs.YtonhpkigoplmaaaGreatDoor
