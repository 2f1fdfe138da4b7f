import Derived.Test.YtonhpkigoplmaaaGreatDoorZ27
import Derived.Test.YtonhpkigoplmaaaGreatDoorZ26
set_option maxRecDepth 100000
set_option maxHeartbeats 40000000
namespace Go.Proofs.YtonhpkigoplmaaaGreatDoor
section
open Go.RowKit Go.Extern Ieee
attribute [local go_sem] av
theorem Hi {w0 W1 W:World} {gr n:Nat} {gb cap:Nat→Nat} {M:Nat→Nat→Nat×Nat} {k a:Nat} (e:El w0 W1 gr n gb cap M k) (hk:k<n) (ak:k≤a) (an:a<n) (hz:¬cn (M a k) 0) (hm:Mat W gr n (swapR gb k a) (swapR cap k a) (swapR M k a)) (hb:Below w0.heap.size w0 W):Em w0 W gr n (swapR gb k a) (swapR cap k a) (swapR M k a) k 0:=by
 refine⟨hm,hb,e.gg,fun i hi=>?_,fun y x hy hx hn=>?_,fun y hy hn=>?_⟩
 ·unfold swapR;by_cases ik:i=k
  ·rw[if_pos ik];exact e.gs a an
  ·rw[if_neg ik];by_cases ia:i=a
   ·rw[if_pos ia];exact e.gs k hk
   ·rw[if_neg ia];exact e.gs i hi
 ·unfold swapR;by_cases ik:y=k
  ·rw[if_pos ik];exact e.iv a x an (.inr (by omega)) hn
  ·rw[if_neg ik];by_cases ia:y=a
   ·rw[if_pos ia];exact e.iv k x hk (.inr (by omega)) hn
   ·rw[if_neg ia];exact e.iv y x hy hx hn
 ·unfold swapR;by_cases ik:y=k
  ·rw[if_pos ik,ik];exact hz
  ·rw[if_neg ik,if_neg (by omega)];exact e.nz y (by omega) hn
theorem F9 {w0 W W':World} {gr n:Nat} {gb cap:Nat→Nat} {M:Nat→Nat→Nat×Nat} {k i:Nat} (e:Em w0 W gr n gb cap M k 0) (_:k<n) (hki:k<i) (hi:i<n) {r' br:Nat→Nat×Nat} (t:TkS w0 W W' (gb i) (gb k) (n+1) r' br) (hiv:∀x,k≤x→x<n+1→ivW (r' x)):Em w0 W' gr n gb cap (upd M i r') k 0:=by
 refine⟨e.mat.take hi t.hg t.r1,t.hb,e.gg,e.gs,fun y x hy hx hn=>?_,fun y hy hn=>?_⟩
 ·by_cases hyi:y=i
  ·subst hyi;rw[aN];exact hiv x (by omega) (by omega)
  ·rw[bn hyi];exact e.iv y x hy hx hn
 ·rw[bn (by omega)];exact e.nz y hy hn
theorem ww {w0 W:World} {gr n:Nat} {gb cap:Nat→Nat} {M:Nat→Nat→Nat×Nat} {k:Nat} (e:Em w0 W gr n gb cap M k 0):El w0 W gr n gb cap M (k+1):=
 ⟨e.mat,e.hb,e.gg,e.gs,fun y x hy hx hn=>e.iv y x hy (by omega) hn,fun y hy hn=>e.nz y (by omega) hn⟩
theorem uQ (A:Nat→Addr) (gr n cr:Nat) (gb0 cap0:Nat→Nat) (M0:Nat→Nat→Nat×Nat) (w0 w:World) (hS:aE A w0) (hn:n≤90) (hcr:n≤cr) (e0:El w0 w gr n gb0 cap0 M0 0):
  ax 110 #[.slice (some ⟨gr,0,none⟩) n cr] w fun e w'=>Below w0.heap.size w0 w'∧((∃gb cap M,dM muX suX quX pvX n n 0 M0=some M∧e= .returned .nilIface∧El w0 w' gr n gb cap M n)∨dM muX suX quX pvX n n 0 M0=none∧e= .returned (aL (A 8))):=by
 have HS:=hid hS;have HE:=hid e0;clear hS e0;go_enter Tryz.func110,Tryz.ntmps110;go_wp2_with fail
 go_loopw [11] (fun x wr=>∃(k:Nat) (gb cap:Nat→Nat) (M:Nat→Nat→Nat×Nat),k≤n∧x=iV (k:Int)∧El w0 wr gr n gb cap M k∧dM muX suX quX pvX n (n-k) k M=dM muX suX quX pvX n n 0 M0) (fun x _=>n-(intOf x).toNat)
 case atStart=>exact⟨0,gb0,cap0,M0,Nat.zero_le _,rfl,HE.out,rfl⟩
 case round=>
  obtain⟨k,gb,cap,M,hk1,rfl,hel,hre⟩:=hrel;have EL:=hid hel;have RE:=hid hre;clear hel hre HE;by_cases hk:k<n
  ·have HP:Hid (ax 156 #[.slice (some ⟨gr,0,none⟩) n cr,iV (k:Int)] wr fun e w'=>Below wr.heap.size wr w'∧((∃a,pvX M n k=some a∧e= .returned (.tuple #[iV (a:Int),.nilIface]))∨pvX M n k=none∧e= .returned (.tuple #[iV 0,aL (A 8)]))):=CV A gr n cr k gb cap M wr (HS.out.below EL.out.hb ae) EL.out.mat hk (by omega) (fun i j a b c d=>EL.out.iv i j b (.inr c) (by omega))
   have EX:Hid (dM muX suX quX pvX n (n-k) k M=(pvX M n k).bind fun a=>(gW muX suX quX n k (n-1-k) (k+1) (swapR M k a)).bind fun M'=>dM muX suX quX pvX n (n-(k+1)) (k+1) M'):=by
    show _=_
    rw[show n-k=(n-(k+1))+1 by omega];rfl
   go_wp2_with fail;refine Calls.mono HP.out ?_;rintro e w1 ⟨hb1,hor⟩;have EL:=hid (EL.out.below hb1);clear hb1 HP;rcases hor with⟨a,ea,rfl⟩|⟨ea,rfl⟩
   ·obtain⟨ak,an,anz⟩:=zC.pv M n k a ea;have ANZ:Hid (¬cn (M a k) 0):=fun hc=>anz ⟨EL.out.iv a k an (.inr ae) (by omega),hc⟩
    have EX2:Hid ((gW muX suX quX n k (n-1-k) (k+1) (swapR M k a)).bind (fun M'=>dM muX suX quX pvX n (n-(k+1)) (k+1) M')=dM muX suX quX pvX n n 0 M0):=by
     show _=_
     rw[←RE.out,EX.out,ea];rfl
    clear RE EX ea anz;obtain⟨h1,h2⟩:=EL.out.mat.head hk;obtain⟨h3,h4⟩:=EL.out.mat.head an;go_wp2_with fail
    go_cut [] (fun wc=>Em w0 wc gr n (swapR gb k a) (swapR cap k a) (swapR M k a) k 0)
    case first=>
     have MS:=hid (EL.out.mat.swap hk an);have EM:Hid (∀W,Mat W gr n (swapR gb k a) (swapR cap k a) (swapR M k a)→Below w0.heap.size w0 W→Em w0 W gr n (swapR gb k a) (swapR cap k a) (swapR M k a) k 0):=fun W hm hb=>Hi EL.out hk ak an ANZ.out hm hb
     by_cases hka:k=a
     ·subst hka;clear h3 h4;go_region
      all_goals(go_wp2_with fail;go_meet)
      all_goals exact EM.out _ (MS.out.below aK.drew) ((EL.out.hb.setCell (by exact EL.out.gg) _).setCell (by exact EL.out.gg) _).drew
     ·go_region
      all_goals(go_wp2_with fail;go_meet)
      all_goals exact EM.out _ (MS.out.below aK.drew) ((EL.out.hb.setCell (by exact EL.out.gg) _).setCell (by exact EL.out.gg) _).drew
    case rest=>
     have EM:=hid hcut;clear hcut EL ANZ h1 h2 h3 h4;generalize swapR M k a=M1 at*;generalize swapR gb k a=gb1 at*;generalize swapR cap k a=cap1 at*;generalize hti:gW muX suX quX n k (n-1-k) (k+1) M1=TI at*;have HTI:=hid hti;clear hti;have hk4:k+1≤n:=hk;have hk5:n≤cr:=hcr;by_cases hkc:k+1<cr
     ·go_wp2_with fail
      go_loopw [42] (fun x wy=>∃(j:Nat) (M':Nat→Nat→Nat×Nat),j≤n-(k+1)∧x=iV (j:Int)∧Em w0 wy gr n gb1 cap1 M' k 0∧gW muX suX quX n k (n-(k+1)-j) (k+1+j) M'=TI) (fun x _=>n-(intOf x).toNat)
      case atStart=>exact⟨0,M1,by omega,rfl,EM.out,by rw[←HTI.out,show n-(k+1)-0=n-1-k by omega]⟩
      case round=>
       obtain⟨j,M',hj1,rfl,hem,hte⟩:=hrel;have EM:=hid hem;have TE:=hid hte;clear hem hte HTI;by_cases hj:j<n-(k+1)
       ·obtain⟨h1,-⟩:=EM.out.mat.head (i:=k+1+j) (by omega);obtain⟨h3,-⟩:=EM.out.mat.head hk;have hne:gb1 (k+1+j)≠gb1 k:=EM.out.mat.inj _ _ (by omega) hk (by omega)
        have HT:Hid (ax 157 #[.slice (some ⟨gb1 (k+1+j),0,none⟩) (n+1) (cap1 (k+1+j)),.slice (some ⟨gb1 k,0,none⟩) (n+1) (cap1 k),iV (k:Int)] wr fun e w'=>∃r',TkS w0 wr w' (gb1 (k+1+j)) (gb1 k) (n+1) r' (M' k)∧(gO muX suX quX n k (M' (k+1+j)) (M' k)=some r'∧e= .returned .nilIface∧(∀x,k≤x→x<n+1→ivW (r' x))∨gO muX suX quX n k (M' (k+1+j)) (M' k)=none∧e= .returned (aL (A 8)))):=
         wI A _ _ (n+1) _ _ k n (M' (k+1+j)) (M' k) w0 wr HS.out ⟨⟨rfl,rfl,rfl,Nat.le_refl _,fun _ _ _=>rfl⟩,EM.out.mat.rows _ (by omega),EM.out.mat.rows k hk,EM.out.hb,hne,EM.out.gs _ (by omega)⟩ (by omega) (by omega) rfl (fun x a b=>EM.out.iv _ x (by omega) (.inr a) (by omega)) (fun x a b=>EM.out.iv k x hk (.inr a) (by omega)) (EM.out.nz k ae hk)
        have ET:Hid (gW muX suX quX n k (n-(k+1)-j) (k+1+j) M'=(gO muX suX quX n k (M' (k+1+j)) (M' k)).bind fun r=>gW muX suX quX n k (n-(k+1)-(j+1)) (k+1+(j+1)) (upd M' (k+1+j) r)):=by
         show _=_
         rw[show n-(k+1)-j=(n-(k+1)-(j+1))+1 by omega];rfl
        clear hne;go_wp2_with fail;refine Calls.mono HT.out ?_;rintro e w2 ⟨r',htk,hor⟩;have TK:=hid htk;clear htk HT h1 h3;rcases hor with⟨e1,rfl,hiv⟩|⟨e1,rfl⟩
        ·have EM2:Hid (Em w0 w2 gr n gb1 cap1 (upd M' (k+1+j) r') k 0):=F9 EM.out hk (by omega) (by omega) TK.out hiv
         have TE2:Hid (gW muX suX quX n k (n-(k+1)-(j+1)) (k+1+(j+1)) (upd M' (k+1+j) r')=TI):=by
          show _=_
          rw[←TE.out,ET.out,e1];rfl
         clear EM TE ET TK hiv e1;go_wp2;go_roundw
         case rel=>exact⟨j+1,_,by omega,by go_num,EM2.out,TE2.out⟩
         case measure=>simp[intOf];omega
        ·have TE2:Hid (dM muX suX quX pvX n n 0 M0=none):=by
          show _=_
          have:TI=none:=by rw[←TE.out,ET.out,e1];rfl
          rw[←EX2.out,this];rfl
         have HB2:=hid TK.out.hb;clear EM TE ET TK e1 EX2;go_wp2
         go_ret
         exact⟨HB2.out,.inr ⟨TE2.out,rfl⟩⟩
       ·have TE2:Hid (dM muX suX quX pvX n (n-(k+1)) (k+1) M'=dM muX suX quX pvX n n 0 M0):=by
         show _=_
         have:TI=some M':=by rw[←TE.out,show n-(k+1)-j=0 by omega];rfl
         rw[←EX2.out,this];rfl
        have EL2:=hid (ww EM.out);clear EM TE EX2;go_wp2;go_roundw
        case rel=>exact⟨k+1,gb1,cap1,M',by omega,by go_num,EL2.out,TE2.out⟩
        case measure=>simp[intOf];omega
     ·have TE2:Hid (dM muX suX quX pvX n (n-(k+1)) (k+1) M1=dM muX suX quX pvX n n 0 M0):=by
       show _=_
       have:TI=some M1:=by rw[←HTI.out,show n-1-k=0 by omega];rfl
       rw[←EX2.out,this];rfl
      have EL2:=hid (ww EM.out);clear EM EX2 HTI;have hkn:n=k+1:=by omega
      have hkr:cr=k+1:=by omega
      go_wp2_with fail
      go_loopw [42] (fun x wy=>x=iV 0∧wy=wc) (fun _ _=>0)
      case atStart=>exact⟨rfl,rfl⟩
      case round=>
       obtain⟨rfl,rfl⟩:=hrel;go_wp2;go_roundw
       case rel=>exact⟨k+1,gb1,cap1,M1,by omega,by go_num,EL2.out,TE2.out⟩
       case measure=>simp[intOf];omega
   ·have TE2:Hid (dM muX suX quX pvX n n 0 M0=none):=by
     show _=_
     rw[←RE.out,EX.out,ea];rfl
    have HB2:=hid EL.out.hb;clear EL RE EX ea;go_wp2
    go_ret
    exact⟨HB2.out,.inr ⟨TE2.out,rfl⟩⟩
  ·have TE2:Hid (dM muX suX quX pvX n n 0 M0=some M):=by
    show _=_
    rw[←RE.out,show n-k=0 by omega];rfl
   have hkn:k=n:=by omega
   subst hkn;clear RE;go_wp2
   go_ret
   exact⟨EL.out.hb,.inl ⟨gb,cap,M,TE2.out,rfl,EL.out⟩⟩
end
section
open Go.RowKit Go.Extern Ieee
attribute [local go_sem] av
def reachW (x:Nat):Bool:=decide (absW x=0)||(decide (4472074429978902528≤absW x) && decide (absW x≤4742290407621132288))
theorem p7 {x:Nat} (hx:x<18446744073709551616) (hp:au x=some (plT x)) (w:World):ax 155 #[fV x] w fun e w'=>e= .returned (.bool (reachW x))∧w'=w:=by
 have H1:Hid (∀W,ax 160 #[fV x] W fun e w'=>e= .returned (fV (absW x))∧w'=W):=fun W=>jN x W hx
 have hn:=(dT hx hp).1.nn;have o1:FloatKind.f64.format.order (absW x) 0=some (compare ((absW x:Nat):Int) ((0:Nat):Int)):=pm hn ⟨by decide⟩;have o2:FloatKind.f64.format.order (absW x) 4472074429978902528=some (compare ((absW x:Nat):Int) ((4472074429978902528:Nat):Int)):=pm hn ⟨by decide⟩;have o3:FloatKind.f64.format.order (absW x) 4742290407621132288=some (compare ((absW x:Nat):Int) ((4742290407621132288:Nat):Int)):=pm hn ⟨by decide⟩;have HR:Hid (reachW x=(decide (absW x=0)||(decide (4472074429978902528≤absW x) && decide (absW x≤4742290407621132288)))):=rfl;generalize absW x=a at*;generalize reachW x=r at*;clear hn hp hx;go_enter Tryz.func155,Tryz.ntmps155;go_wp2_with fail;refine (H1.out _).mono ?_;rintro e w1 ⟨rfl,rfl⟩;clear H1;by_cases c1:a=0
 ·subst c1;have er:Hid (r=true):=by show _=_;rw[HR.out];simp
  clear HR;go_wp2_with fail
  go_ret
  rw[er.out];exact⟨rfl,rfl⟩
 ·have q1:compare ((a:Nat):Int) ((0:Nat):Int)= .gt:=Int.compare_eq_gt.2 (by omega);rw[q1] at o1;by_cases c2:4472074429978902528≤a
  ·by_cases c3:a≤4742290407621132288
   ·have er:Hid (r=true):=by show _=_;rw[HR.out];simp[c2,c3]
    clear HR q1;rcases Nat.lt_or_eq_of_le c2 with d2|d2<;>rcases Nat.lt_or_eq_of_le c3 with d3|d3
    ·have q2:compare ((a:Nat):Int) ((4472074429978902528:Nat):Int)= .gt:=Int.compare_eq_gt.2 (by omega);have q3:compare ((a:Nat):Int) ((4742290407621132288:Nat):Int)= .lt:=Int.compare_eq_lt.2 (by omega);rw[q2] at o2;rw[q3] at o3;clear q2 q3 c1 c2 c3 d2 d3;go_wp2_with fail
     go_ret
     rw[er.out];exact⟨rfl,rfl⟩
    ·subst d3;have q2:compare ((4742290407621132288:Nat):Int) ((4472074429978902528:Nat):Int)= .gt:=by decide
     have q3:compare ((4742290407621132288:Nat):Int) ((4742290407621132288:Nat):Int)= .eq:=by decide
     rw[q2] at o2;rw[q3] at o3;clear q2 q3 c1 c2 c3 d2;go_wp2_with fail
     go_ret
     rw[er.out];exact⟨rfl,rfl⟩
    ·subst d2;have q2:compare ((4472074429978902528:Nat):Int) ((4472074429978902528:Nat):Int)= .eq:=by decide
     have q3:compare ((4472074429978902528:Nat):Int) ((4742290407621132288:Nat):Int)= .lt:=by decide
     rw[q2] at o2;rw[q3] at o3;clear q2 q3 c1 c2 c3 d3;go_wp2_with fail
     go_ret
     rw[er.out];exact⟨rfl,rfl⟩
    ·omega
   ·have er:Hid (r=false):=by show _=_;rw[HR.out];simp[c1,c3]
    have q2:compare ((a:Nat):Int) ((4472074429978902528:Nat):Int)= .gt:=Int.compare_eq_gt.2 (by omega);have q3:compare ((a:Nat):Int) ((4742290407621132288:Nat):Int)= .gt:=Int.compare_eq_gt.2 (by omega);rw[q2] at o2;rw[q3] at o3;clear q1 q2 q3 c1 c2 c3 HR;go_wp2_with fail
    go_ret
    rw[er.out];exact⟨rfl,rfl⟩
  ·have er:Hid (r=false):=by show _=_;rw[HR.out];simp[c1,c2]
   have q2:compare ((a:Nat):Int) ((4472074429978902528:Nat):Int)= .lt:=Int.compare_eq_lt.2 (by omega);rw[q2] at o2;clear q1 q2 c1 c2 HR o3;go_wp2_with fail
   go_ret
   rw[er.out];exact⟨rfl,rfl⟩
theorem sE {al ah:Nat} (i:Iv al ah) (w:World):aw 109 #[gF al ah] w (.bool (!reachW al||!reachW ah)):=by
 have H1:Hid (∀W,ax 155 #[fV al] W fun e w'=>e= .returned (.bool (reachW al))∧w'=W):=fun W=>p7 i.lt1 i.p1 W
 have H2:Hid (∀W,ax 155 #[fV ah] W fun e w'=>e= .returned (.bool (reachW ah))∧w'=W):=fun W=>p7 i.lt2 i.p2 W
 clear i;generalize reachW al=x at*;generalize reachW ah=y at*;go_enter Tryz.func109,Tryz.ntmps109;go_wp2_with fail;have hB:Below w.heap.size w (w.alloc (.cells #[fV al,fV ah] 67)):=aK.alloc ae _;have K:=af w (.cells #[fV al,fV ah] 67);generalize(w.alloc (.cells #[fV al,fV ah] 67))=W1 at*;obtain⟨k0,k1,-,-⟩:=aj K;refine (H1.out _).mono ?_;rintro e w1 ⟨rfl,rfl⟩
 cases x
 ·go_wp2_with fail
  go_ret
  exact⟨rfl,hB⟩
 ·go_wp2_with fail;refine (H2.out _).mono ?_;rintro e w1 ⟨rfl,rfl⟩
  cases y
  ·go_wp2_with fail
   go_ret
   exact⟨rfl,hB⟩
  ·go_wp2_with fail
   go_ret
   exact⟨rfl,hB⟩
end
section
open Go.RowKit Go.Extern Ieee
attribute [local go_sem] av
def ef (a:Nat×Nat):Bool:=!reachW a.1||!reachW a.2
theorem uT (g m c:Nat) (r:Nat→Nat×Nat) (w:World) (hr:bI w g m r) (hm:m≤100) (iv:∀j,j<m→ivW (r j)):
  ax 154 #[.slice (some ⟨g,0,none⟩) m c,.func (.func 109) #[] #[]] w fun e w'=>Below w.heap.size w w'∧((∃j,j<m∧ef (r j)=true∧e= .returned (iV (j:Int)))∨(∀j,j<m→ef (r j)=false)∧e= .returned (iV (-1))):=by
 have HR:=hid hr;have IV:=hid iv;clear hr iv;go_enter Tryz.func154,Tryz.ntmps154;go_wp2_with fail
 go_loopw [8] (fun x wr=>∃j:Nat,j≤m∧x=iV (j:Int)∧Below w.heap.size w wr∧∀i,i<j→ef (r i)=false) (fun x _=>m-(intOf x).toNat)
 case atStart=>exact⟨0,Nat.zero_le _,rfl,Below.refl _ _,fun i hi=>by omega⟩
 case round=>
  obtain⟨j,hj,rfl,hb,hno⟩:=hrel;have HB:=hid hb;have HN:=hid hno;clear hb hno;by_cases hjm:j<m
  ·obtain⟨a1,a2,-,-⟩:=(HR.out.below HB.out).cell hjm;have HO:Hid (∀W,aw 109 #[.agg #[fV (r j).1,fV (r j).2]] W (.bool (ef (r j)))):=fun W=>sE (IV.out j hjm) W
   generalize h:ef (r j)=b at HO;have EO:=hid h;clear h;generalize(r j).1=al at*;generalize(r j).2=ah at*;go_wp2_with fail;refine (HO.out _).mono ?_;rintro e w1 ⟨rfl,hb1⟩;have HB:=hid (HB.out.trans (hb1.mono HB.out.size));clear hb1 HO a1 a2
   cases b
   ·have HN2:Hid (∀i,i<j+1→ef (r i)=false):=fun i hi=>by
     by_cases hij:i=j
     ·rw[hij];exact EO.out
     ·exact HN.out i (by omega)
    clear HN EO;go_wp2;go_roundw
    case rel=>exact⟨j+1,by omega,by go_num,HB.out,HN2.out⟩
    case measure=>simp[intOf];omega
   ·clear HN;go_wp2
    go_ret
    exact⟨HB.out,.inl ⟨j,hjm,EO.out,rfl⟩⟩
  ·have HN2:Hid (∀i,i<m→ef (r i)=false):=fun i hi=>HN.out i (by omega)
   clear HN;go_wp2
   go_ret
   exact⟨HB.out,.inr ⟨HN2.out,rfl⟩⟩
theorem qz (g m c:Nat) (r:Nat→Nat×Nat) (w:World) (hr:bI w g m r) (hm:m≤100) (iv:∀j,j<m→ivW (r j)):
  ax 108 #[.slice (some ⟨g,0,none⟩) m c,.func (.func 109) #[] #[]] w fun e w'=>Below w.heap.size w w'∧((∃j,j<m∧ef (r j)=true)∧e= .returned (.bool true)∨(∀j,j<m→ef (r j)=false)∧e= .returned (.bool false)):=by
 have HI:=hid (uT g m c r w hr hm iv);clear hr iv;go_enter Tryz.func108,Tryz.ntmps108;go_wp2_with fail;refine Calls.mono HI.out ?_;rintro e w1 ⟨hb,⟨j,hj,ho,rfl⟩|⟨ho,rfl⟩⟩
 ·have HO:=hid ho;have HB:=hid hb;clear HI ho hb;go_wp2
  go_ret
  exact⟨HB.out,.inl ⟨⟨j,hj,HO.out⟩,rfl⟩⟩
 ·have HO:=hid ho;have HB:=hid hb;clear HI ho hb;go_wp2
  go_ret
  exact⟨HB.out,.inr ⟨HO.out,rfl⟩⟩
def AI (W:World) (ao:Option Addr) (m:Nat) (ln:Nat→Nat):Prop:=m=0∨∃gr,ao=some ⟨gr,0,none⟩∧∀i,i<m→∃po pc,W.cell? ⟨gr,i,none⟩=some (.slice po (ln i) pc)
def iC (n m:Nat) (ln:Nat→Nat):Prop:=n≠0∧n≤4∧m=n∧∀i,i<n→ln i=n
theorem on (ao:Option Addr) (m c n:Nat) (ln:Nat→Nat) (w:World) (hh:AI w ao m ln) (hm:m<4611686018427387904) (hn:n<4611686018427387904) (hl:∀i,i<m→ln i<4611686018427387904):
  ax 106 #[.slice ao m c,iV (n:Int)] w fun e w'=>w'=w∧(iC n m ln∧e= .returned (.bool true)∨¬iC n m ln∧e= .returned (.bool false)):=by
 have HH:=hid hh;have HL:=hid hl;clear hh hl;go_enter Tryz.func106,Tryz.ntmps106;by_cases c1:n=0
 ·subst c1;clear HL HH;go_wp2_with fail
  go_ret
  exact⟨rfl,.inr ⟨fun h=>h.1 rfl,rfl⟩⟩
 by_cases c2:n≤4
 ·by_cases c3:m=n
  ·subst c3;rcases HH.out with h0|⟨gr,rfl,hc⟩
   ·omega
   have HC:=hid hc;clear hc HH;have c1':((m:Int)==0)=false:=by simp;omega
   have c3':((m:Int) !=(m:Int))=false:=by simp
   go_wp2_with fail
   go_loopw [21] (fun x wr=>∃j:Nat,j≤m∧x=iV (j:Int)∧wr=w∧∀i,i<j→ln i=m) (fun x _=>m-(intOf x).toNat)
   case atStart=>exact⟨0,Nat.zero_le _,rfl,rfl,fun i hi=>by omega⟩
   case round=>
    obtain⟨j,hj,rfl,rfl,hno⟩:=hrel;have HN:=hid hno;clear hno;by_cases hjm:j<m
    ·obtain⟨po,pc,h1⟩:=HC.out j hjm;have hlj:=HL.out j hjm;have EQ:=hid (Eq.refl (ln j));generalize hx:ln j=x at h1 hlj;have EX:=hid hx;clear hx EQ HC HL;by_cases hxm:x=m
     ·subst hxm
      have HN2:Hid (∀i,i<j+1→ln i=x):=fun i hi=>by
       by_cases hij:i=j
       ·rw[hij];exact EX.out
       ·exact HN.out i (by omega)
      clear HN EX;go_wp2;go_roundw
      case rel=>exact⟨j+1,by omega,by go_num,trivial,HN2.out⟩
      case measure=>simp[intOf];omega
     ·have NO:Hid (¬iC m m ln):=fun h=>hxm (EX.out.symm.trans (h.2.2.2 j hjm))
      have hxi:¬((x:Int)=(m:Int)):=by omega
      clear HN EX;go_wp2
      go_ret
      exact⟨rfl,.inr ⟨NO.out,rfl⟩⟩
    ·have YES:Hid (iC m m ln):=⟨c1,c2,rfl,fun i hi=>HN.out i (by omega)⟩;clear HN HC HL;go_wp2
     go_ret
     exact⟨rfl,.inl ⟨YES.out,rfl⟩⟩
  ·clear HL HH;have c4:((m:Int) !=(n:Int))=true:=by simp;omega
   have c5:((n:Int)==0)=false:=by simp;omega
   go_wp2_with fail
   go_ret
   exact⟨rfl,.inr ⟨fun h=>c3 h.2.2.1,rfl⟩⟩
 ·clear HL HH;have c5:((n:Int)==0)=false:=by simp;omega
  go_wp2_with fail
  go_ret
  exact⟨rfl,.inr ⟨fun h=>c2 h.2.1,rfl⟩⟩
end
section
open Go.RowKit Go.Extern Ieee
attribute [local go_sem] av
theorem q7:(Tryz.prog.info? 67).map (fun i=>(i.zero,i.size,i.bytes))=some (some (gF 0 0),2,16):=by kernel_rfl
theorem En {W:World} {base g n:Nat} (h:W.ownsRow base 67 2 (.slice (some ⟨g,0,none⟩) n n) n (madeCells (gF 0 0).cells (n*2)).toList):base≤g∧bI W g n (fun _=>(0,0)):=by
 obtain⟨-,h|⟨g',cap,cur,e1,hb,h1,h2,h3,h4,h5⟩⟩:=h
 ·obtain⟨h,-⟩:=h;cases h
 ·cases e1
  rw[List.take_of_length_le (by simp;omega)] at h5;have h6:=Array.toList_inj.1 h5;subst h6;refine⟨hb,_,h1,by rw[h4];exact Nat.le_refl _,fun j hj=>?_⟩;have hz:(gF 0 0).cells=#[fV 0,fV 0]:=by rfl
  unfold madeCells;rw[hz];constructor
  ·rw[Array.getElem?_map,Array.getElem?_range,if_pos (by omega)];have:(j*2) % 2=0:=by omega
   simp[this]
  ·rw[Array.getElem?_map,Array.getElem?_range,if_pos (by omega)];have:(j*2+1) % 2=1:=by omega
   simp[this]
structure Sb (w W:World) (gf n:Nat) (g:Nat→Nat×Nat) (i:Nat):Prop where
 hb:Below w.heap.size w W
 row:bI W gf n g
 ge:w.heap.size≤gf
 iv:∀j,i≤j→j<n→ivW (g j)
theorem Sb.below {w W W':World} {gf n:Nat} {g:Nat→Nat×Nat} {i:Nat} (s:Sb w W gf n g i) (hb:Below W.heap.size W W'):Sb w W' gf n g i:=⟨s.hb.trans (hb.mono s.hb.size),s.row.below hb,s.ge,s.iv⟩
theorem Sb.set {w W:World} {gf n:Nat} {g:Nat→Nat×Nat} {i:Nat} (s:Sb w W gf n g (i+1)) (hi:i<n) (a b:Nat) (hab:ivW (a,b)):Sb w ((W.setCell ⟨gf,i*2,none⟩ (fV a)).setCell ⟨gf,i*2+1,none⟩ (fV b)) gf n (upd g i (a,b)) i:=
 ⟨(s.hb.setCell (by exact s.ge) _).setCell (by exact s.ge) _,s.row.set hi a b,s.ge,fun j h1 h2=>by
   by_cases hij:j=i
   ·subst hij;rw[aN];exact hab
   ·rw[bn hij];exact s.iv j (by omega) h2⟩
theorem Sb.put {w W:World} {gf n gt:Nat} {g:Nat→Nat×Nat} {i:Nat} (s:Sb w W gf n g i) (h1:w.heap.size≤gt) (h2:gf≠gt) (o:Nat) (v:Value):Sb w (W.setCell ⟨gt,o,none⟩ v) gf n g i:=
 ⟨s.hb.setCell (by exact h1) _,s.row.grown (db W gt o v) h2,s.ge,s.iv⟩
theorem rp (A:Nat→Addr) (gr n cr:Nat) (gb cap:Nat→Nat) (M:Nat→Nat→Nat×Nat) (w0 w:World) (hS:aE A w0) (hn:n≤90) (e0:El w0 w gr n gb cap M n) (RES:Option (Nat→Nat×Nat)) (hres:fD muX suX quX n M n (fun _=>(0,0))=RES):
  ax 111 #[.slice (some ⟨gr,0,none⟩) n cr] w fun e w'=>Below w.heap.size w w'∧((∃g gf,RES=some g∧e= .returned (.tuple #[.slice (some ⟨gf,0,none⟩) n n,.nilIface])∧w.heap.size≤gf∧bI w' gf n g∧∀j,j<n→ivW (g j))∨RES=none∧e= .returned (.tuple #[.slice none 0 0,aL (A 8)])):=by
 have HS:=hid hS;have EL:=hid e0;obtain⟨i0,hi,hz0,hz1,hz2⟩:=info_parts q7;clear hS e0;go_enter Tryz.func111,Tryz.ntmps111;go_wp2_with (at_make;refine wpList_make_full _ rfl _ _ 86 rfl w.heap.size 67 i0 (gF 0 0) 2 Tryz.underlying86 hi hz0 hz1 _ _ _ _ n rfl rfl rfl rfl ?m1 ?m2 ?m3 ?_)
 case m1=>rw[hz2];omega
 case m2=>unfold maxLen;omega
 case m3=>exact Nat.le_refl _
 intro w1 hown1 hgrow1;obtain⟨hge,hrow⟩:=En hown1;have hb1:Below w.heap.size w w1:=aK.grown hgrow1 ae (fun k hk=>by cases hk);obtain⟨gf,hgf⟩:∃gf,gf=w.heap.size:=⟨_,rfl⟩;have SB:Hid (Sb w w1 gf n (fun _=>(0,0)) n):=⟨hb1,hgf▸hrow,Nat.le_of_eq hgf.symm,fun j a b=>by omega⟩;rw[←hgf];clear hown1 hgrow1 hge hrow hb1 hi hz0 hz1 hz2 hgf;have RS0:=hid hres;clear hres;go_wp2_with fail
 go_loopw [6] (fun x wr=>∃(i:Nat) (g:Nat→Nat×Nat),i≤n∧x=iV ((i:Int)-1)∧Sb w wr gf n g i∧fD muX suX quX n M i g=RES) (fun x _=>(intOf x+1).toNat)
 case atStart=>exact⟨n,_,Nat.le_refl _,rfl,SB.out,RS0.out⟩
 case round=>
  obtain⟨i,g,hi,rfl,hsb,hrs⟩:=hrel;have SB:=hid hsb;have RS:=hid hrs;clear hsb hrs RS0
  cases i with
  |zero=>
   have RS2:Hid (RES=some g):=RS.out.symm;clear RS EL HS;go_wp2;refine bodyPost_ret (v:= .tuple #[.slice (some ⟨gf,0,none⟩) n n,.nilIface]) (by simp[results,Tryz.results111,go_sem]) rfl ?_;exact⟨SB.out.hb,.inl ⟨g,gf,RS2.out,rfl,SB.out.ge,SB.out.row,fun j hj=>SB.out.iv j (Nat.zero_le _) hj⟩⟩
  |succ k=>
   have hkn:k<n:=hi;rw[show(((k+1:Nat):Int)-1)=(k:Int) by omega];have EW:=hid (EL.out.below SB.out.hb);obtain⟨h1,-⟩:=EW.out.mat.head hkn;obtain⟨r1,r2,-,-⟩:=(EW.out.mat.rows k hkn).cell (j:=n) (by omega);have ES:Hid (fD muX suX quX n M (k+1) g=(iJ muX suX (M k) g (n-1-k) (k+1) (M k n)).bind fun r=>(quX r (M k k)).bind fun c=>fD muX suX quX n M k (upd g k c)):=rfl;have IR:Hid (ivW (M k n)):=EW.out.iv k n hkn (.inl (by omega)) ae;generalize M k n=mm at*;obtain⟨rl,rh⟩:=mm;go_wp2_with fail;obtain⟨gt,hgt⟩:∃gt,gt=wr.heap.size:=⟨_,rfl⟩;have hgg:gf≠gt:=by have:=SB.out.row.lt;omega
   have BX0:Hid (IBx (wr.alloc (.cells #[fV rl,fV rh] 67)) gt rl rh):=by rw[hgt];exact af wr _
   have SB1:Hid (Sb w (wr.alloc (.cells #[fV rl,fV rh] 67)) gf n g (k+1)):=SB.out.below aJ;have hgw:w.heap.size≤gt:=by rw[hgt];exact SB.out.hb.size
   have RS1:Hid ((iJ muX suX (M k) g (n-1-k) (k+1) (rl,rh)).bind (fun r=>(quX r (M k k)).bind fun c=>fD muX suX quX n M k (upd g k c))=RES):=ES.out.symm.trans RS.out;rw[←hgt];clear hgt SB RS ES r1 r2 h1 EW;generalize wr.alloc (.cells #[fV rl,fV rh] 67)=wa at*;generalize hrj:iJ muX suX (M k) g (n-1-k) (k+1) (rl,rh)=RJ at*;have RJ0:=hid hrj;clear hrj
   go_loopw [8,9] (fun _ x wy=>∃(j r1 r2:Nat),k+1≤j∧j≤n∧x=iV (j:Int)∧Sb w wy gf n g (k+1)∧IBx wy gt r1 r2∧Iv r1 r2∧iJ muX suX (M k) g (n-j) j (r1,r2)=RJ) (fun _ x _=>n-(intOf x).toNat)
   case atStart=>exact⟨k+1,rl,rh,Nat.le_refl _,hkn,by go_num,SB1.out,BX0.out,IR.out,by rw[←RJ0.out,show n-(k+1)=n-1-k by omega]⟩
   case round=>
    obtain⟨j,ql,qh,hj1,hj2,rfl,hsb,hbx,hiv,hrj⟩:=hrel;have SB:=hid hsb;have BX:=hid hbx;have IQ:=hid hiv;have RJ1:=hid hrj;clear hsb hbx hiv hrj SB1 BX0 IR RJ0;have EW:=hid (EL.out.below SB.out.hb);obtain⟨h1,-⟩:=EW.out.mat.head hkn;obtain⟨t1,t2,t3,t4⟩:=aj BX.out;by_cases hjm:j<n
    ·obtain⟨a1,a2,-,-⟩:=(EW.out.mat.rows k hkn).cell (j:=j) (by omega);obtain⟨b1,b2,-,-⟩:=SB.out.row.cell hjm;have ia:Hid (ivW (M k j)):=EW.out.iv k j hkn (.inl (by omega)) hj2;have ib:Hid (ivW (g j)):=SB.out.iv j (by omega) hjm
     have ET:Hid (iJ muX suX (M k) g (n-j) j (ql,qh)=(lpX muX suX (ql,qh) (M k j) (g j)).bind fun c=>iJ muX suX (M k) g (n-(j+1)) (j+1) c):=by
      show _=_
      rw[show n-j=(n-(j+1))+1 by omega];rfl
     generalize M k j=mm at*;generalize g j=gj at*;obtain⟨bl_,bh⟩:=mm;obtain⟨cl,ch⟩:=gj;have HLL:Hid (∀W,BTt wr W→ax 158 #[gF ql qh,gF bl_ bh,gF cl ch] W fun ev w'=>SvR A W (lpX muX suX (ql,qh) (bl_,bh) (cl,ch)) ev w'):=fun W hW=>lY A W (HS.out.below (EW.out.hb.trans (hW.hb.mono EW.out.hb.size)) ae) IQ.out ia.out ib.out
     go_wp2_with fail
     go_cut [8] (fun s8 wc=>∃ul uh,Sb w wc gf n g (k+1)∧IBx wc gt ul uh∧(lpX muX suX (ql,qh) (bl_,bh) (cl,ch)=some (ul,uh)∧s8= .nilIface∨lpX muX suX (ql,qh) (bl_,bh) (cl,ch)=none∧s8= aL (A 8)))
     case first=>
      have m1:Hid (BTt wr wr):=⟨Below.refl _ _⟩;have iN:Hid (BTt wr wr.drew):=m1.out.drew
      go_region_with (first
       |(go_at_call 158;refine (HLL.out _ ?_).mono ?_;(exact iN.out);(intro e v0 hsv)
         (unfold SvR at hsv);(obtain⟨ul,uh,v,rfl,hbk,hor⟩:=hsv)
         have HO:=hid hor;have iN:Hid (BTt wr v0):=iN.out.below hbk;have BX2:Hid (IBx v0 gt ql qh):=aa BX.out iN.out.hb;obtain⟨y1,y2,y3,y4⟩:=aj BX2.out;clear hbk hor))
      all_goals(go_wp2_with fail;go_meet;exact⟨ul,uh,((SB.out.below iN.out.hb).put hgw hgg _ _).put hgw hgg _ _,aA BX2.out,HO.out⟩)
     case rest=>
      obtain⟨ul,uh,hsb,hbx,hor⟩:=hcut;have SB:=hid hsb;have BX:=hid hbx;clear hsb hbx a1 a2 b1 b2 t1 t2 t3 t4 h1 EW HLL;rcases hor with⟨e1,rfl⟩|⟨e1,rfl⟩
      ·have RJ2:Hid (iJ muX suX (M k) g (n-(j+1)) (j+1) (ul,uh)=RJ):=by
        show _=_
        rw[←RJ1.out,ET.out,e1];rfl
       have IU:Hid (Iv ul uh):=E8 e1 IQ.out;clear e1 RJ1 ET ia ib IQ;go_wp2;go_roundw
       case rel=>exact⟨j+1,ul,uh,by omega,by omega,by go_num,SB.out,BX.out,IU.out,RJ2.out⟩
       case measure=>simp[intOf];omega
      ·have RE2:Hid (RES=none):=by
        show _=_
        have:RJ=none:=by rw[←RJ1.out,ET.out,e1];rfl
        rw[←RS1.out,this];rfl
       clear e1 RJ1 ET ia ib IQ;go_wp2;refine bodyPost_ret (v:= .tuple #[.slice none 0 0,aL (A 8)]) (by simp[results,Tryz.results111,go_sem]) rfl ?_;exact⟨SB.out.hb,.inr ⟨RE2.out,rfl⟩⟩
    ·have RJ2:Hid (RJ=some (ql,qh)):=by
      show _=_
      rw[←RJ1.out,show n-j=0 by omega];rfl
     have hjn:j=n:=by omega
     have RS2:Hid ((quX (ql,qh) (M k k)).bind (fun c=>fD muX suX quX n M k (upd g k c))=RES):=by
      show _=_
      rw[←RS1.out,RJ2.out];rfl
     obtain⟨a1,a2,-,-⟩:=(EW.out.mat.rows k hkn).cell (j:=k) (by omega);obtain⟨b1,b2,b3,b4⟩:=SB.out.row.cell hkn;have ia:Hid (ivW (M k k)):=EW.out.iv k k hkn (.inl ae) (by omega);have nz:Hid (¬cn (M k k) 0):=EW.out.nz k hkn hkn;generalize M k k=mm at*;obtain⟨bl_,bh⟩:=mm;generalize(g k).1=gk1 at*;generalize(g k).2=gk2 at*
     have hh:holdsT (plT bl_) (plT bh)=false:=by
      cases h:holdsT (plT bl_) (plT bh)
      ·rfl
      ·exact absurd ((j9 (bl_,bh)).1 h) nz.out
     obtain⟨lo,hi',p,q,f1,f2,hle,hw,hc⟩:=Fe IQ.out ia.out hh;have HC:=hid hc
     have HW:Hid (∀W,BTt wr W→ax 159 #[fV lo,fV hi'] W fun ev w'=>SvR A W (quX (ql,qh) (bl_,bh)) ev w'):=fun W hW=>by
      rw[←hw];exact jW A lo hi' p q W (HS.out.below (EW.out.hb.trans (hW.hb.mono EW.out.hb.size)) ae) f1 f2 hle
     have QIV:Hid (∀t,quX (ql,qh) (bl_,bh)=some t→ivW t):=fun t h=>((gC (f:=quoN) (a:=(ql,qh)) (b:=(bl_,bh)) (g:=fun i j=>aF i / aF j) (mv IQ.out ia.out nz.out)).1 t h).1
     clear hc hw f1 f2 hle hh nz ia IQ RJ1 RJ2 RS1;go_wp2_with fail
     go_cut [8] (fun s8 wc=>∃ul uh,(quX (ql,qh) (bl_,bh)=some (ul,uh)∧Sb w wc gf n (upd g k (ul,uh)) k∧s8= .nilIface)∨(quX (ql,qh) (bl_,bh)=none∧Below w.heap.size w wc∧s8= aL (A 8)))
     case first=>
      have m1:Hid (BTt wr wr):=⟨Below.refl _ _⟩;have iN:Hid (BTt wr wr.drew):=m1.out.drew
      have FIN:Hid (∀(v1:World) (ul uh:Nat) (v:Value),BTt wr v1→(quX (ql,qh) (bl_,bh)=some (ul,uh)∧v= .nilIface∨quX (ql,qh) (bl_,bh)=none∧v= aL (A 8))→∃ul' uh',(quX (ql,qh) (bl_,bh)=some (ul',uh')∧Sb w ((v1.setCell ⟨gf,k*2,none⟩ (fV ul)).setCell ⟨gf,k*2+1,none⟩ (fV uh)) gf n (upd g k (ul',uh')) k∧v= .nilIface)∨(quX (ql,qh) (bl_,bh)=none∧Below w.heap.size w ((v1.setCell ⟨gf,k*2,none⟩ (fV ul)).setCell ⟨gf,k*2+1,none⟩ (fV uh))∧v= aL (A 8))):=by
       intro v1 ul uh v hb hor;have s:=SB.out.below hb.hb;rcases hor with⟨e1,e2⟩|⟨e1,e2⟩
       ·exact⟨ul,uh,.inl ⟨e1,s.set hkn ul uh (QIV.out _ e1),e2⟩⟩
       ·exact⟨0,0,.inr ⟨e1,(s.hb.setCell (by exact s.ge) _).setCell (by exact s.ge) _,e2⟩⟩
      go_region_with (first
       |(go_at_call 91;refine (HC.out _).mono ?_;(rintro e v0 ⟨rfl,hbk⟩)
         have iN:Hid (BTt wr v0):=iN.out.below hbk;clear hbk)
       |(go_at_call 159;refine (HW.out _ ?_).mono ?_;(exact iN.out);(intro e v1 hsv)
         (unfold SvR at hsv);(obtain⟨ul,uh,v,rfl,hbk,hor⟩:=hsv)
         have HO:=hid hor;have iN:Hid (BTt wr v1):=iN.out.below hbk;obtain⟨y1,y2,y3,y4⟩:=(SB.out.below iN.out.hb).row.cell hkn;clear hbk hor))
      all_goals(go_wp2_with fail;go_meet;exact FIN.out _ _ _ _ iN.out HO.out)
     case rest=>
      obtain⟨ul,uh,⟨e1,hsb,rfl⟩|⟨e1,hbb,rfl⟩⟩:=hcut
      ·have RS3:Hid (fD muX suX quX n M k (upd g k (ul,uh))=RES):=by
        show _=_
        rw[←RS2.out,e1];rfl
       have SB:=hid hsb;clear e1 hsb RS2 HW HC QIV EW a1 a2 b1 b2 b3 b4 h1 t1 t2 t3 t4;go_wp2;go_roundw
       case rel=>exact⟨k,_,by omega,by go_num,SB.out,RS3.out⟩
       case measure=>simp[intOf]
      ·have RS3:Hid (RES=none):=by
        show _=_
        rw[←RS2.out,e1];rfl
       have HB:=hid hbb;clear e1 hbb RS2 HW HC QIV EW a1 a2 b1 b2 b3 b4 h1 t1 t2 t3 t4;go_wp2;refine bodyPost_ret (v:= .tuple #[.slice none 0 0,aL (A 8)]) (by simp[results,Tryz.results111,go_sem]) rfl ?_;exact⟨HB.out,.inr ⟨RS3.out,rfl⟩⟩
end
section
open Go.RowKit Go.Extern Ieee
attribute [local go_sem] av
def ivs (r:Nat→Nat×Nat) (n:Nat):List Value:=(List.range (n*2)).map fun j=>if j % 2=0 then fV (r (j / 2)).1 else fV (r (j / 2)).2
theorem FK (r:Nat→Nat×Nat) (n:Nat):(ivs r n).length=n*2:=by unfold ivs;simp
theorem wK (r:Nat→Nat×Nat) {n j:Nat} (h:j<n):(ivs r n)[j*2]?=some (fV (r j).1):=by
 unfold ivs;rw[List.getElem?_map,List.getElem?_range (by omega)];have h1:j*2 % 2=0:=by omega
 have h2:j*2 / 2=j:=by omega
 simp[h1,h2]
theorem yK (r:Nat→Nat×Nat) {n j:Nat} (h:j<n):(ivs r n)[j*2+1]?=some (fV (r j).2):=by
 unfold ivs;rw[List.getElem?_map,List.getElem?_range (by omega)];have h1:(j*2+1) % 2=1:=by omega
 have h2:(j*2+1) / 2=j:=by omega
 simp[h1,h2]
theorem qK (r:Nat→Nat×Nat) (n:Nat):ivs r (n+1)=ivs r n++[fV (r n).1,fV (r n).2]:=by
 unfold ivs;rw[show(n+1)*2=n*2+1+1 by omega,List.range_succ,List.range_succ];have h1:n*2 % 2=0:=by omega
 have h2:n*2 / 2=n:=by omega
 have h3:(n*2+1) % 2=1:=by omega
 have h4:(n*2+1) / 2=n:=by omega
 simp[h1,h2,h3,h4]
theorem oW {r s:Nat→Nat×Nat} {n:Nat} (h:∀j,j<n→r j=s j):ivs r n=ivs s n:=by
 unfold ivs;refine List.map_congr_left fun j hj=>?_
 have:=List.mem_range.1 hj;rw[h (j / 2) (by omega)]
theorem F8 {r:Nat→Nat×Nat} {n:Nat}:∀u∈ivs r n,u.oneCell'=true:=by
 intro u hu;unfold ivs at hu;obtain⟨i,_,rfl⟩:=List.mem_map.1 hu;split<;>rfl
theorem bI.of_owns {W:World} {base n:Nat} {v:Value} {r:Nat→Nat×Nat} (h:W.ownsRow base 67 2 v n (ivs r n)) (hn:n≠0):∃g c,v= .slice (some ⟨g,0,none⟩) n c∧base≤g∧n≤c∧bI W g n r:=by
 obtain⟨-,⟨-,h0⟩|⟨g,cap,cur,e1,hb,h1,h2,h3,h4,h5⟩⟩:=h
 ·exact absurd h0 hn
 ·refine⟨g,cap,e1,hb,h2,cur,h1,by rw[h4];exact Nat.mul_le_mul_right 2 h2,fun j hj=>?_⟩
  have key:∀i,i<n*2→cur[i]?=(ivs r n)[i]?:=by
   intro i hi;rw[←h5,List.getElem?_take_of_lt hi,Array.getElem?_toList]
  exact⟨(key _ (by omega)).trans (wK r hj),(key _ (by omega)).trans (yK r hj)⟩
theorem AJ (g n c:Nat) (r:Nat→Nat×Nat) (w:World) (h:bI w g n r) (hn:n≤100):
  ax 153 #[.slice (some ⟨g,0,none⟩) n c] w fun e w'=>∃v,e= .returned v∧w'.ownsRow w.heap.size 67 2 v n (ivs r n)∧Below w.heap.size w w':=by
 obtain⟨i0,hi,hz0,hz1,hz2⟩:=info_parts q7;have hlen:(ivs r n).length=n*2:=FK r n
 have hcell:∀j u,(ivs r n)[j]?=some u→(w.alloc (.cells #[] 67)).cell? ((Addr.mk g 0 none).add j)=some u:=by
  intro j u hj
  have hjn:j<n*2:=by
   have:=(List.getElem?_eq_some_iff.1 hj).1;rwa [hlen] at this
  have ea:(Addr.mk g 0 none).add j=⟨g,j,none⟩:=by
   by_cases hj:j=0
   ·subst hj;simp[Addr.add]
   ·simp[Addr.add,hj]
  rw[ea,((Below.refl _ w).alloc ae _).cell (by exact h.lt)];obtain⟨c1,c2,-,-⟩:=h.cell (j:=j / 2) (by omega);rcases Nat.mod_two_eq_zero_or_one j with h0|h0
  ·have e1:j=j / 2*2:=by omega
   have e2:=wK r (n:=n) (j:=j / 2) (by omega);rw[←e1] at e2 c1;rw[c1,←e2,hj]
  ·have e1:j=j / 2*2+1:=by omega
   have e2:=yK r (n:=n) (j:=j / 2) (by omega);rw[←e1] at e2 c2;rw[c2,←e2,hj]
 have hnil:=fun w=>uc (P:=Tryz.prog) w 86 67 (some ⟨g,0,none⟩) n c Tryz.underlying86
 have HC:Hid (∀j u,(ivs r n)[j]?=some u→(w.alloc (.cells #[] 67)).cell? ((Addr.mk g 0 none).add j)=some u):=hcell;clear h hcell;go_enter Tryz.func153,Tryz.ntmps153
 go_wp2_with (first
  |(at_builtin;refine wpList_append_own _ rfl _ _ 86 rfl w.heap.size 67 i0 (gF 0 0) 2 16 Tryz.underlying86 hi hz0 hz1 hz2 rfl (by decide) _ _ _ rfl (World.ownsRow_made _ _ _ ae (by decide) (by simp)) ⟨g,0,none⟩ n c (ivs r n) rfl (by rw[hlen]) HC.out F8 ?c3 ?c4 ?c5 ?_)
  |go_in)
 case c3=>unfold maxLen;omega
 case c4=>omega
 case c5=>simp
 ·intro v' w1 hown' hgrow _;have hb:Below w.heap.size w w1:=((Below.refl _ w).alloc ae _).grown hgrow (by simp) (fun k hk=>by simp[Value.ownBlock] at hk;omega)
  have HO:Hid (w1.ownsRow w.heap.size 67 2 v' n (ivs r n)):=by
   show w1.ownsRow w.heap.size 67 2 v' n (ivs r n)
   simpa using hown'
  clear hown' hgrow;go_wp2
  go_ret
  exact⟨v',rfl,HO.out,hb⟩
end
section
open Go.RowKit Go.Extern Ieee
attribute [local go_sem] av
theorem d7 {P:Program} {ops:Array Oper} {o:Oper} {a:Act} {w:World} {K:Act→World→Prop} {Q:Exit→Act→World→Prop} {E:Prop}
  (hg:o.guard=none) (s x:Operand) (t:TypeId) (hop:o.op=Op.call {callee:=Callee.builtin Builtin.append,args:=#[s,x],argTypes:=#[t,t]})
  (base:Nat) (e:TypeId) (i:TypeInfo) (z:Value) (size bytes:Nat) (h1:P.underlying t=some (.slice e)) (h2:P.info? e=some i) (h3:i.zero=some z) (h4:i.size=size) (h5:i.bytes=bytes) (h6:z.cells.size=size) (h7:0<size)
  (v:Value) (k:Nat) (xs:List Value) (hs:a.eval s=v) (hown:w.ownsRow base e size v k xs) (ad:Addr) (m c:Nat) (news:List Value) (hx:a.eval x= .slice (some ad) m c) (hn:news.length=m*size)
  (hc:∀j u,news[j]?=some u→w.cell? (ad.add j)=some u) (h1c:∀u∈news,u.oneCell'=true) (b1:k+m≤maxLen) (b2:(k+m)*bytes≤140737488355328) (b3:base≤w.heap.size)
  (hK:∀v' w',w'.ownsRow base e size v' (k+m) (xs++news)→w.grownBy w' v.ownBlock→K (a.put o.dst v') w'):
  if Region.wanted o (yielded ops a.tmps)=true then Oper.wp P o a w K Q else E:=by
 have hw:Region.wanted o (yielded ops a.tmps)=true:=by simp[Region.wanted,hg]
 rw[if_pos hw];obtain⟨v',w',hrun,r1,r2,-⟩:=run_append_own (P:=P) w base t o.type e i z size bytes h1 h2 h3 h4 h5 h6 h7 v k xs hown ad m c news hn hc h1c b1 b2 b3;unfold Oper.wp;simp[execOp,hop,resolve,invoke,builtin,hs,hx,hrun,Result.andThen];exact hK v' w' r1 r2
structure Eqs (w W:World) (gr n:Nat) (gb cap:Nat→Nat) (M:Nat→Nat→Nat×Nat) (i:Nat):Prop where
 hb:Below w.heap.size w W
 blk:∃cur,W.heap[gr]?=some (.cells cur 86 (0,0))∧n≤cur.size∧∀j,j<n→cur[j]?=some (if j<i then .slice (some ⟨gb j,0,none⟩) (n+1) (cap j) else .slice none 0 0)
 gg:w.heap.size≤gr
 rows:∀j,j<i→bI W (gb j) (n+1) (M j)
 gs:∀j,j<i→w.heap.size≤gb j
 inj:∀j k,j<i→k<i→j≠k→gb j≠gb k
 caps:∀j,j<i→n+1≤cap j
theorem Eqs.cell {w W:World} {gr n:Nat} {gb cap:Nat→Nat} {M:Nat→Nat→Nat×Nat} {i:Nat} (s:Eqs w W gr n gb cap M i) {W1:World} (hb:Below W.heap.size W W1) (hi:i<n):W1.cell? ⟨gr,i,none⟩=some (.slice none 0 0)∧W1.frozen? ⟨gr,i,none⟩=false:=by
 obtain⟨cur,h1,h2,h3⟩:=s.blk;have h1:=aa h1 hb;refine⟨by rw[bf h1,h3 i hi,if_neg (Nat.lt_irrefl _)],by simp[World.frozen?,h1]⟩
theorem Eqs.step {w W:World} {gr n:Nat} {gb cap:Nat→Nat} {M:Nat→Nat→Nat×Nat} {i:Nat} (s:Eqs w W gr n gb cap M i) {W1:World} {g' c':Nat} (hb:Below W.heap.size W W1) (hi:i<n) (hr:bI W1 g' (n+1) (M i)) (hge:W.heap.size≤g') (hc:n+1≤c'):Eqs w (W1.setCell ⟨gr,i,none⟩ (.slice (some ⟨g',0,none⟩) (n+1) c')) gr n (upd gb i g') (upd cap i c') M (i+1):=by
 obtain⟨cur,h1,h2,h3⟩:=s.blk;have hgr:=ag h1;have h1:=aa h1 hb
 have hneg:∀j,j<i→gb j≠gr:=by
  intro j hj e;obtain⟨c2,k2,_⟩:=(s.rows j hj).below hb;rw[e,h1] at k2
  cases k2
 refine⟨(s.hb.trans (hb.mono s.hb.size)).setCell (by exact s.gg) _,⟨_,fL h1 _ _,by simpa using h2,fun j hj=>?_⟩,s.gg,fun j hj=>?_,fun j hj=>?_,fun j k hj hk hjk=>?_,fun j hj=>?_⟩
 ·by_cases hji:j=i
  ·subst hji;rw[Array.getElem?_setIfInBounds_self_of_lt (by omega),if_pos (by omega),aN,aN]
  ·rw[Array.getElem?_setIfInBounds_ne (fun e=>hji e.symm),h3 j hj,bn hji,bn hji];by_cases hl:j<i
   ·rw[if_pos hl,if_pos (by omega)]
   ·rw[if_neg hl,if_neg (by omega)]
 ·by_cases hji:j=i
  ·subst hji;rw[aN];exact hr.grown (db _ gr _ _) (by omega)
  ·rw[bn hji];exact((s.rows j (by omega)).below hb).grown (db _ gr _ _) (hneg j (by omega))
 ·by_cases hji:j=i
  ·subst hji;rw[aN];exact Nat.le_trans s.hb.size hge
  ·rw[bn hji];exact s.gs j (by omega)
 ·by_cases hji:j=i
  ·by_cases hki:k=i
   ·omega
   ·subst hji;rw[aN,bn hki];have:=(s.rows k (by omega)).lt;omega
  ·by_cases hki:k=i
   ·subst hki;rw[aN,bn hji];have:=(s.rows j (by omega)).lt;omega
   ·rw[bn hji,bn hki];exact s.inj j k (by omega) (by omega) hjk
 ·by_cases hji:j=i
  ·subst hji;rw[aN];exact hc
  ·rw[bn hji];exact s.caps j (by omega)
def augW (n:Nat) (R:Nat→Nat→Nat×Nat) (B:Nat→Nat×Nat):Nat→Nat→Nat×Nat:=fun j x=>if x<n then R j x else B j
theorem FV (n:Nat) (R:Nat→Nat→Nat×Nat) (B:Nat→Nat×Nat) (j:Nat):ivs (augW n R B j) (n+1)=ivs (R j) n++[fV (B j).1,fV (B j).2]:=by
 rw[qK];have h1:augW n R B j n=B j:=by unfold augW;rw[if_neg (Nat.lt_irrefl _)]
 have h2:ivs (augW n R B j) n=ivs (R j) n:=oW fun x hx=>by unfold augW;rw[if_pos hx]
 rw[h1,h2]
theorem wq {W:World} {base k s n:Nat} {T:TypeId} {v:Value} {xs:List Value} (h:W.ownsRow base T s v n xs) (hk:v.ownBlock=some k):base≤k:=by
 obtain⟨-,⟨rfl,-⟩|⟨g,c,cur,rfl,hb,-⟩⟩:=h
 ·simp[Value.ownBlock] at hk
 ·simp[Value.ownBlock] at hk;omega
theorem jt {W:World} {g:Nat} {a b:Value} {T:TypeId} (h:W.heap[g]?=some (.cells #[a,b] T (0,0))):∀j u,([a,b]:List Value)[j]?=some u→W.cell? ((Addr.mk g 0 none).add j)=some u:=by
 intro j u hj
 match j,hj with
 |0,hj=>simp at hj;subst hj;simp[Addr.add,World.cell?,h]
 |1,hj=>simp at hj;subst hj;simp[Addr.add,World.cell?,h]
theorem Bb:(Tryz.prog.info? 86).map (fun i=>(i.zero,i.size,i.bytes))=some (some (.slice none 0 0),1,24):=by kernel_rfl
theorem CZ {w W:World} {n:Nat} {gb cap:Nat→Nat} {M:Nat→Nat→Nat×Nat} (h:W.ownsRow w.heap.size 86 1 (.slice (some ⟨w.heap.size,0,none⟩) n n) n (List.replicate n (.slice none 0 0))) (hb:Below w.heap.size w W):Eqs w W w.heap.size n gb cap M 0:=by
 obtain⟨-,h|⟨g',c,cur,e1,hb',h1,h2,h3,h4,h5⟩⟩:=h
 ·obtain⟨h,-⟩:=h;cases h
 ·cases e1
  rw[List.take_of_length_le (by simp;omega)] at h5;refine⟨hb,⟨cur,h1,by omega,fun j hj=>?_⟩,hb',fun j hj=>by omega,fun j hj=>by omega,fun j k hj=>by omega,fun j hj=>by omega⟩;rw[if_neg (by omega),←Array.getElem?_toList,h5,List.getElem?_replicate,if_pos hj]
theorem uW (ga n ca gB cB:Nat) (gA cA:Nat→Nat) (R:Nat→Nat→Nat×Nat) (B:Nat→Nat×Nat) (w:World) (hn:n≤90)
  (hA:∀i,i<n→w.cell? ⟨ga,i,none⟩=some (.slice (some ⟨gA i,0,none⟩) n (cA i))) (hR:∀i,i<n→bI w (gA i) n (R i)) (hB:bI w gB n B):
  ax 107 #[.slice (some ⟨ga,0,none⟩) n ca,.slice (some ⟨gB,0,none⟩) n cB] w fun e w'=>∃gr gb cap,e= .returned (.slice (some ⟨gr,0,none⟩) n n)∧Eqs w w' gr n gb cap (augW n R B) n:=by
 have HA:=hid hA;have HR:=hid hR;have HB:=hid hB;clear hA hR hB;obtain⟨i1,hi1,hy0,hy1,hy2⟩:=info_parts q7;obtain⟨i0,hi,hz0,hz1,hz2⟩:=info_parts Bb;go_enter Tryz.func107,Tryz.ntmps107;go_wp2_with (at_make;refine wpList_make_full _ rfl _ _ 85 rfl w.heap.size 86 i0 (.slice none 0 0) 1 Tryz.underlying85 hi hz0 hz1 _ _ _ _ n rfl rfl rfl rfl ?m1 ?m2 ?m3 ?_)
 case m1=>rw[hz2];omega
 case m2=>unfold maxLen;omega
 case m3=>exact Nat.le_refl _
 intro w1 hown1 hgrow1;have hb1:Below w.heap.size w w1:=aK.grown hgrow1 ae (fun k hk=>by cases hk)
 have EQ0:Hid (Eqs w w1 w.heap.size n (fun _=>0) (fun _=>0) (augW n R B) 0):=CZ (by
  have h:=hown1;rw[toList_madeCells_one] at h;exact h) hb1
 obtain⟨gr,hgr⟩:∃gr,gr=w.heap.size:=⟨_,rfl⟩;have EQ:Hid (Eqs w w1 gr n (fun _=>0) (fun _=>0) (augW n R B) 0):=by rw[hgr];exact EQ0
 rw[←hgr];clear hown1 hgrow1 hb1 EQ0 hgr hi hz0 hz1 hz2;go_wp2_with fail
 go_loopw [12] (fun x wr=>∃(i:Nat) (gb cap:Nat→Nat),i≤n∧x=iV (i:Int)∧Eqs w wr gr n gb cap (augW n R B) i) (fun x _=>n-(intOf x).toNat)
 case atStart=>exact⟨0,_,_,Nat.zero_le _,rfl,EQ.out⟩
 case round=>
  obtain⟨i,gb,cap,hin,rfl,he⟩:=hrel;have EQ:=hid he;clear he;by_cases hi:i<n
  ·have hA:=HA.out i hi;have hlt:=bL hA;rw[←EQ.out.hb.cell (by exact hlt)] at hA;have RB:Hid (bI wr gB n B):=HB.out.below EQ.out.hb;obtain⟨b1,b2,-,-⟩:=RB.out.cell hi;have HCL:Hid (∀W,BTt wr W→ax 153 #[.slice (some ⟨gA i,0,none⟩) n (cA i)] W fun e w'=>∃v,e= .returned v∧w'.ownsRow W.heap.size 67 2 v n (ivs (R i) n)∧Below W.heap.size W w'):=fun W hW=>AJ _ _ _ _ _ (((HR.out i hi).below EQ.out.hb).below hW.hb) (by omega)
   have AUG:=hid (FV n R B i);clear hlt;go_wp2_with fail;have m1:Hid (BTt wr wr):=⟨Below.refl _ _⟩;have hA2:=(m1.out.alloc (.cells #[fV (B i).1,fV (B i).2] 67)).cell hA;have iN:Hid (BTt wr wr.drew):=m1.out.drew
   go_region_law (first
    |(refine d7 rfl _ _ 86 rfl wr.heap.size 67 i1 (gF 0 0) 2 16 Tryz.underlying86 hi1 hy0 hy1 hy2 rfl (by decide) _ n (ivs (R i) n) rfl (OW.out.alloc _) ⟨_,0,none⟩ 1 1 [fV (B i).1,fV (B i).2] rfl rfl (jt (af _ _)) (by simp[Value.oneCell']) (by unfold maxLen;omega) (by omega) ((iN.out.alloc _).hb.size) ?_
      intro v' w1 hown' hgrow;obtain⟨g',c',rfl,hg',hc',hrow⟩:=bI.of_owns (r:=augW n R B i) (n:=n+1) (by rw[AUG.out];exact hown') (by omega);have iN:Hid (BTt wr w1):=⟨(iN.out.alloc _).hb.grown hgrow ((iN.out.alloc _).hb.size) (fun k hk=>wq OW.out hk)⟩;obtain⟨s1,s2⟩:=EQ.out.cell iN.out.hb hi;have ST:=hid (EQ.out.step iN.out.hb hi hrow hg' hc');clear hown' hgrow hrow OW)
    |(refine d7 rfl _ _ 86 rfl wr.heap.size 67 i1 (gF 0 0) 2 16 Tryz.underlying86 hi1 hy0 hy1 hy2 rfl (by decide) _ n (ivs (R i) n) rfl (OW.out) ⟨_,0,none⟩ 1 1 [fV (B i).1,fV (B i).2] rfl rfl (jt KK.out) (by simp[Value.oneCell']) (by unfold maxLen;omega) (by omega) (iN.out.hb.size) ?_
      intro v' w1 hown' hgrow;obtain⟨g',c',rfl,hg',hc',hrow⟩:=bI.of_owns (r:=augW n R B i) (n:=n+1) (by rw[AUG.out];exact hown') (by omega);have iN:Hid (BTt wr w1):=⟨(iN.out).hb.grown hgrow (iN.out.hb.size) (fun k hk=>wq OW.out hk)⟩;obtain⟨s1,s2⟩:=EQ.out.cell iN.out.hb hi;have ST:=hid (EQ.out.step iN.out.hb hi hrow hg' hc');clear hown' hgrow hrow OW)
    |(rw[if_pos (by rfl)]
      go_simp
      go_at_call 153
      refine (HCL.out _ ?_).mono ?_
      ·exact iN.out
      rintro e v0 ⟨v,rfl,hown,hbk⟩;have OW:Hid (v0.ownsRow wr.heap.size 67 2 v n (ivs (R i) n)):=aH hown aK iN.out.hb.size;have iN:Hid (BTt wr v0):=iN.out.below hbk;obtain⟨b1,b2,-,-⟩:=(RB.out.below iN.out.hb).cell hi;clear hbk hown)
    |(rw[if_pos (by rfl)]
      go_simp
      go_at_call 153
      refine (HCL.out _ ?_).mono ?_
      ·exact(m1.out.alloc _).drew
      rintro e v0 ⟨v,rfl,hown,hbk⟩;have OW:Hid (v0.ownsRow wr.heap.size 67 2 v n (ivs (R i) n)):=aH hown aK (m1.out.alloc _).drew.hb.size;have KK:Hid (v0.heap[wr.heap.size]?=some (.cells #[fV (B i).1,fV (B i).2] 67 (0,0))):=aa (w:=(wr.alloc (.cells #[fV (B i).1,fV (B i).2] 67)).drew) (af wr _) hbk;have iN:Hid (BTt wr v0):=(m1.out.alloc _).drew.below hbk;obtain⟨b1,b2,-,-⟩:=(RB.out.below iN.out.hb).cell hi;clear hbk hown))
   all_goals(go_wp2;go_roundw)
   all_goals first|exact⟨i+1,_,_,by omega,by go_num,ST.out⟩|(simp[intOf];omega)
  ·have hin':i=n:=by omega
   subst hin';go_wp2
   go_ret
   exact⟨gr,gb,cap,rfl,EQ.out⟩
end
section
open Go.RowKit Go.Extern Ieee
attribute [local go_sem] av
theorem El.of_eqs {w W:World} {gr n:Nat} {gb cap:Nat→Nat} {M:Nat→Nat→Nat×Nat} (s:Eqs w W gr n gb cap M n) (iv:∀y x,y<n→x≤n→ivW (M y x)):El w W gr n gb cap M 0:=by
 obtain⟨cur,h1,h2,h3⟩:=s.blk;exact⟨⟨⟨cur,h1,h2,fun j hj=>by rw[h3 j hj,if_pos hj]⟩,s.rows,s.inj,s.caps⟩,s.hb,s.gg,s.gs,fun y x hy _ hx=>iv y x hy hx,fun y hy=>by omega⟩
theorem Eqs.below {w W W':World} {gr n:Nat} {gb cap:Nat→Nat} {M:Nat→Nat→Nat×Nat} {i:Nat} (s:Eqs w W gr n gb cap M i) (hb:Below W.heap.size W W'):Eqs w W' gr n gb cap M i:=by
 obtain⟨cur,h1,h2⟩:=s.blk;exact⟨s.hb.trans (hb.mono s.hb.size),⟨cur,aa h1 hb,h2⟩,s.gg,fun j hj=>(s.rows j hj).below hb,s.gs,s.inj,s.caps⟩
theorem Ce (A:Nat→Addr) (ao bo:Option Addr) (m ca n cb:Nat) (ln:Nat→Nat) (w:World) (hS:aE A w) (hh:AI w ao m ln) (hm:m<4611686018427387904) (hn:n<4611686018427387904) (hl:∀i,i<m→ln i<4611686018427387904) (hq:¬iC n m ln):
  ax 54 #[.slice ao m ca,.slice bo n cb] w fun e w'=>Below w.heap.size w w'∧e= .returned (.tuple #[.slice none 0 0,aL (A 7)]):=by
 have HI:=hid (on ao m ca n ln w hh hm hn hl);have HQ:=hid hq;have c7:w.cell? ⟨7,0,none⟩=some (aL (A 7)):=hS.cell 7 (by omega);clear hS hh hl hq;go_enter Tryz.func54,Tryz.ntmps54;go_wp2_with fail;refine Calls.mono HI.out ?_;rintro e w1 ⟨rfl,⟨hs,rfl⟩|⟨hs,rfl⟩⟩
 ·exact absurd hs HQ.out
 ·clear hs HQ HI;go_wp2_with fail;go_region
  all_goals go_wp2
  all_goals(refine bodyPost_ret (v:= .tuple #[.slice none 0 0,aL (A 7)]) (by simp[results,Tryz.results54,go_sem]) rfl ?_;exact⟨aK.drew,rfl⟩)
theorem AN (A:Nat→Addr) (ga n ca gB cB:Nat) (gA cA:Nat→Nat) (R:Nat→Nat→Nat×Nat) (B:Nat→Nat×Nat) (w:World) (hS:aE A w) (hn0:n≠0) (hn:n≤4)
  (hA:∀i,i<n→w.cell? ⟨ga,i,none⟩=some (.slice (some ⟨gA i,0,none⟩) n (cA i))) (hR:∀i,i<n→bI w (gA i) n (R i)) (hB:bI w gB n B)
  (iv:∀y x,y<n→x≤n→ivW (augW n R B y x)) (RES:Option (Nat→Nat×Nat)) (hres:dC muX suX quX pvX n (augW n R B) (fun _=>(0,0))=RES):
  ax 54 #[.slice (some ⟨ga,0,none⟩) n ca,.slice (some ⟨gB,0,none⟩) n cB] w fun e w'=>Below w.heap.size w w'∧
   ((∃y x,y<n∧x≤n∧ef (augW n R B y x)=true)∧e= .returned (.tuple #[.slice none 0 0,aL (A 2)])∨
    (∀y x,y<n→x≤n→ef (augW n R B y x)=false)∧((∃g gf,RES=some g∧e= .returned (.tuple #[.slice (some ⟨gf,0,none⟩) n n,.nilIface])∧w.heap.size≤gf∧bI w' gf n g∧∀j,j<n→ivW (g j))∨RES=none∧e= .returned (.tuple #[.slice none 0 0,aL (A 8)]))):=by
 have HI:=hid (on (some ⟨ga,0,none⟩) n ca n (fun _=>n) w (.inr ⟨ga,rfl,fun i hi=>⟨_,_,hA i hi⟩⟩) (by omega) (by omega) (fun _ _=>by omega));have HQ:Hid (iC n n (fun _=>n)):=⟨hn0,hn,rfl,fun _ _=>rfl⟩;have HE:=hid (uW ga n ca gB cB gA cA R B w (by omega) hA hR hB);have HS:=hid hS;have IV:=hid iv;have RS:=hid hres;generalize augW n R B=M at*;clear hA hR hB hS iv hres;go_enter Tryz.func54,Tryz.ntmps54;go_wp2_with fail;refine Calls.mono HI.out ?_;rintro e w1 ⟨hw1,⟨hs,rfl⟩|⟨hs,rfl⟩⟩<;>subst w1
 ·clear hs HQ HI;go_wp2_with fail;refine Calls.mono HE.out ?_;rintro e w1 ⟨gr,gb,cap,rfl,he⟩;have EQ:=hid he;clear he HE;go_wp2_with fail
  go_loopw [21] (fun x wr=>∃i:Nat,i≤n∧x=iV (i:Int)∧Eqs w wr gr n gb cap M n∧∀y x,y<i→x≤n→ef (M y x)=false) (fun x _=>n-(intOf x).toNat)
  case atStart=>exact⟨0,Nat.zero_le _,rfl,EQ.out,fun y x hy=>by omega⟩
  case round=>
   obtain⟨i,hin,rfl,he,hno⟩:=hrel;have EQ:=hid he;have NO:=hid hno;clear he hno;by_cases hi:i<n
   ·obtain⟨cur,k1,k2,k3⟩:=EQ.out.blk;have h1:wr.cell? ⟨gr,i,none⟩=some (.slice (some ⟨gb i,0,none⟩) (n+1) (cap i)):=by rw[bf k1,k3 i hi,if_pos hi]
    have HF:=hid (qz (gb i) (n+1) (cap i) (M i) wr (EQ.out.rows i hi) (by omega) (fun j hj=>IV.out i j hi (by omega)));have c5:∀W,Below wr.heap.size wr W→W.cell? ⟨5,0,none⟩=some (aL (A 2)):=fun W hW=>(HS.out.below (EQ.out.hb.trans (hW.mono EQ.out.hb.size)) ae).cell 2 (by omega)
    have C5:=hid c5;clear k1 k2 k3 c5;go_wp2_with fail;refine Calls.mono HF.out ?_;rintro e w2 ⟨hb,⟨ho,rfl⟩|⟨ho,rfl⟩⟩
    ·have c5:=C5.out w2 hb
     have HO:Hid (∃y x,y<n∧x≤n∧ef (M y x)=true):=by
      obtain⟨j,hj,h⟩:=ho;exact⟨i,j,hi,by omega,h⟩
     have HBB:=hid (EQ.out.below hb).hb;clear HF C5 NO ho EQ hb h1;go_wp2_with fail;go_region
     all_goals go_wp2
     all_goals(refine bodyPost_ret (v:= .tuple #[.slice none 0 0,aL (A 2)]) (by simp[results,Tryz.results54,go_sem]) rfl ?_;exact⟨HBB.out.drew,.inl ⟨HO.out,rfl⟩⟩)
    ·have NO2:Hid (∀y x,y<i+1→x≤n→ef (M y x)=false):=fun y x hy hx=>by
      by_cases hyi:y=i
      ·rw[hyi];exact ho x (by omega)
      ·exact NO.out y x (by omega) hx
     have EQ:=hid (EQ.out.below hb);clear HF C5 NO ho hb h1;go_wp2;go_roundw
     case rel=>exact⟨i+1,by omega,by go_num,EQ.out,NO2.out⟩
     case measure=>simp[intOf];omega
   ·have NO2:Hid (∀y x,y<n→x≤n→ef (M y x)=false):=fun y x hy hx=>NO.out y x (by omega) hx
    have HEL:=hid (uQ A gr n n gb cap M w wr HS.out (by omega) ae (El.of_eqs EQ.out IV.out));clear NO EQ;go_wp2_with fail;refine Calls.mono HEL.out ?_;rintro e w2 ⟨hb,⟨gb2,cap2,M2,e1,rfl,hel⟩|⟨e1,rfl⟩⟩
    ·have RS2:Hid (fD muX suX quX n M2 n (fun _=>(0,0))=RES):=by
      show _=_
      rw[←RS.out];unfold dC;rw[e1];rfl
     have HSB:=hid (rp A gr n n gb2 cap2 M2 w w2 HS.out (by omega) hel RES RS2.out);have HB2:=hid hb;clear hb hel e1 HEL RS2;go_wp2_with fail;refine Calls.mono HSB.out ?_;rintro e w3 ⟨hb3,⟨g,gf,e2,rfl,hgf,hrow,hiv⟩|⟨e2,rfl⟩⟩
     ·have HB3:=hid (HB2.out.trans (hb3.mono HB2.out.size));have HGF:Hid (w.heap.size≤gf):=Nat.le_trans HB2.out.size hgf;have HRW:=hid hrow;have HIV:=hid hiv;have E2:=hid e2;clear hb3 hgf hrow hiv e2 HSB;go_wp2;refine bodyPost_ret (v:= .tuple #[.slice (some ⟨gf,0,none⟩) n n,.nilIface]) (by simp[results,Tryz.results54,go_sem]) rfl ?_;exact⟨HB3.out,.inr ⟨NO2.out,.inl ⟨g,gf,E2.out,rfl,HGF.out,HRW.out,HIV.out⟩⟩⟩
     ·have HB3:=hid (HB2.out.trans (hb3.mono HB2.out.size));have E2:=hid e2;clear hb3 e2 HSB;go_wp2;refine bodyPost_ret (v:= .tuple #[.slice none 0 0,aL (A 8)]) (by simp[results,Tryz.results54,go_sem]) rfl ?_;exact⟨HB3.out,.inr ⟨NO2.out,.inr ⟨E2.out,rfl⟩⟩⟩
    ·have E2:Hid (RES=none):=by
      show _=_
      rw[←RS.out];unfold dC;rw[e1];rfl
     have HB2:=hid hb;clear hb e1 HEL;go_wp2;refine bodyPost_ret (v:= .tuple #[.slice none 0 0,aL (A 8)]) (by simp[results,Tryz.results54,go_sem]) rfl ?_;exact⟨HB2.out,.inr ⟨NO2.out,.inr ⟨E2.out,rfl⟩⟩⟩
 ·exact absurd HQ.out hs
end
section
open Go.RowKit Go.Extern Ieee
structure Rws (b bl:Nat) (W:World) (v:Value) (m:Nat) (hv:Nat→Value) (ln:Nat→Nat) (R:Nat→Nat→Nat×Nat):Prop where
 own:W.ownsRow b 86 1 v m ((List.range m).map hv)
 row:∀j,j<m→W.ownsRow b 67 2 (hv j) (ln j) (ivs (R j) (ln j))
 last:∀l,m=l+1→W.ownsRow bl 67 2 (hv l) (ln l) (ivs (R l) (ln l))
 low:∀i k,i+1<m→(hv i).ownBlock=some k→k<bl
 ge:b≤bl
 le:bl≤W.heap.size
theorem i7 {W:World} {b s n:Nat} {T:TypeId} {v:Value} {xs:List Value} (h:W.ownsRow b T s v n xs):∃po pc,v= .slice po n pc:=by
 obtain⟨-,⟨rfl,rfl⟩|⟨g,c,cur,rfl,-⟩⟩:=h
 ·exact⟨_,_,rfl⟩
 ·exact⟨_,_,rfl⟩
theorem Rws.cells {b bl:Nat} {W:World} {v:Value} {m:Nat} {hv:Nat→Value} {ln:Nat→Nat} {R:Nat→Nat→Nat×Nat} (s:Rws b bl W v m hv ln R) (hm:m≠0):∃g c,v= .slice (some ⟨g,0,none⟩) m c∧b≤g∧m≤c∧∀j,j<m→W.cell? ⟨g,j,none⟩=some (hv j):=by
 obtain⟨-,⟨-,h0⟩|⟨g,c,cur,e1,hb,h1,h2,h3,h4,h5⟩⟩:=s.own
 ·exact absurd h0 hm
 ·refine⟨g,c,e1,hb,h2,fun j hj=>?_⟩;rw[bf h1,←Array.getElem?_toList,←List.getElem?_take_of_lt (show j<m*1 by omega),h5,List.getElem?_map,List.getElem?_range hj]
  rfl
theorem Rws.heads {b bl:Nat} {W:World} {m c:Nat} {ao:Option Addr} {hv:Nat→Value} {ln:Nat→Nat} {R:Nat→Nat→Nat×Nat} (s:Rws b bl W (.slice ao m c) m hv ln R):AI W ao m ln:=by
 by_cases hm:m=0
 ·exact .inl hm
 ·obtain⟨g,c',e1,hb,hc,h⟩:=s.cells hm
  cases e1
  refine .inr ⟨g,rfl,fun i hi=>?_⟩;obtain⟨po,pc,e⟩:=i7 (s.row i hi);exact⟨po,pc,by rw[h i hi,e]⟩
theorem Rws.good {b bl:Nat} {W:World} {v:Value} {n:Nat} {hv:Nat→Value} {ln:Nat→Nat} {R:Nat→Nat→Nat×Nat} (s:Rws b bl W v n hv ln R) (hq:iC n n ln):
  ∃(ga ca:Nat) (gA cA:Nat→Nat),v= .slice (some ⟨ga,0,none⟩) n ca∧(∀i,i<n→W.cell? ⟨ga,i,none⟩=some (.slice (some ⟨gA i,0,none⟩) n (cA i)))∧∀i,i<n→bI W (gA i) n (R i):=by
 obtain⟨h0,h4,-,hl⟩:=hq;obtain⟨ga,ca,e1,hb,hc,h⟩:=s.cells h0
 have key:∀i,∃p:Nat×Nat,i<n→hv i= .slice (some ⟨p.1,0,none⟩) n p.2∧bI W p.1 n (R i):=by
  intro i;by_cases hi:i<n
  ·have hr:=s.row i hi;rw[hl i hi] at hr;obtain⟨g,c,e,-,-,hrow⟩:=bI.of_owns hr h0;exact⟨(g,c),fun _=>⟨e,hrow⟩⟩
  ·exact⟨(0,0),fun h=>absurd h hi⟩
 refine⟨ga,ca,fun i=>(Classical.choose (key i)).1,fun i=>(Classical.choose (key i)).2,e1,fun i hi=>?_,fun i hi=>(Classical.choose_spec (key i) hi).2⟩;rw[h i hi,(Classical.choose_spec (key i) hi).1]
theorem da {W:World} {b s n g:Nat} {T:TypeId} {u:Value} {xs:List Value} (h:W.ownsRow b T s u n xs) (hu:u.ownBlock=some g):b≤g∧∃cur,W.heap[g]?=some (.cells cur T (0,0)):=by
 obtain⟨-,⟨rfl,-⟩|⟨g',c,cur,rfl,hb,h1,-⟩⟩:=h
 ·simp[Value.ownBlock] at hu
 ·simp[Value.ownBlock] at hu;subst hu;exact⟨hb,cur,h1⟩
theorem dS {W W':World} {b s n:Nat} {k:Option Nat} {T:TypeId} {u:Value} {xs:List Value} (h:W.ownsRow b T s u n xs) (hg:W.grownBy W' k) (hne:∀j,u.ownBlock=some j→k≠some j):W'.ownsRow b T s u n xs:=by
 obtain⟨hl,⟨rfl,h0⟩|⟨g',c,cur,rfl,hb,h1,h2⟩⟩:=h
 ·exact⟨hl,.inl ⟨rfl,h0⟩⟩
 ·refine⟨hl,.inr ⟨g',c,cur,rfl,hb,?_,h2⟩⟩;rw[hg.block g' (ag h1) (fun e=>hne g' (by simp[Value.ownBlock]) e.symm)];exact h1
theorem lC {W:World} {b b' s s' n n' g:Nat} {T T':TypeId} {u u':Value} {xs xs':List Value} (h:W.ownsRow b T s u n xs) (h':W.ownsRow b' T' s' u' n' xs') (ht:T≠T') (hu:u.ownBlock=some g):u'.ownBlock≠some g:=by
 intro hu';obtain⟨-,c,e⟩:=da h hu;obtain⟨-,c',e'⟩:=da h' hu';rw[e] at e'
 cases e'
 exact ht rfl
theorem Fw (hv:Nat→Value) (m:Nat) (x:Value):(List.range (m+1)).map (upd hv m x)=(List.range m).map hv++[x]:=by
 rw[List.range_succ,List.map_append]
 congr 1
 ·refine List.map_congr_left fun j hj=>?_
  have:=List.mem_range.1 hj;rw[bn (by omega)]
 ·simp[aN]
theorem Rws.push_nil {b bl:Nat} {W W':World} {v v':Value} {m:Nat} {hv:Nat→Value} {ln:Nat→Nat} {R:Nat→Nat→Nat×Nat} (s:Rws b bl W v m hv ln R) (hb:b≤W.heap.size) (ho:W'.ownsRow b 86 1 v' (m+1) ((List.range m).map hv++[.slice none 0 0])) (hg:W.grownBy W' v.ownBlock):Rws b W.heap.size W' v' (m+1) (upd hv m (.slice none 0 0)) (upd ln m 0) R:=by
 have hr:∀j,j<m→W'.ownsRow b 67 2 (hv j) (ln j) (ivs (R j) (ln j)):=fun j hj=>dS (s.row j hj) hg fun k hk=>lC (s.row j hj) s.own (by decide) hk
 have hnil:∀b',W'.ownsRow b' 67 2 (.slice none 0 0) 0 (ivs (R m) 0):=fun b'=>⟨rfl,.inl ⟨rfl,rfl⟩⟩
 refine⟨by rw[Fw];exact ho,fun j hj=>?_,fun l hl=>?_,fun i k hi hk=>?_,hb,hg.size⟩
 ·by_cases hjm:j=m
  ·subst hjm;rw[aN,aN];exact hnil b
  ·rw[bn hjm,bn hjm];exact hr j (by omega)
 ·obtain rfl:l=m:=by omega
  rw[aN,aN];exact hnil _
 ·rw[bn (by omega)] at hk;obtain⟨-,c,e⟩:=da (s.row i (by omega)) hk;exact ag e
theorem NBl.congr {b:Nat} {W:World} {v:Value} {n:Nat} {q q':Nat→ap} {u:Nat→Value} (h:NBl b W v n q u) (e:∀k,k<n→q k=q' k):NBl b W v n q' u:=
 ⟨by rw[←oX e (fun _ _=>rfl)];exact h.own,fun j hj=>by rw[←e j hj];exact h.nat j hj⟩
theorem C8 {W W':World} {v:Value} {n:Nat} (h:NSl W v n) (k:aU W W'):NSl W' v n:=by
 obtain⟨o,l,c,h1,h2,h3⟩:=h;exact⟨o,l,c,h1,h2,h3.keeps k⟩
theorem qd {W W':World} {b s m:Nat} {T:TypeId} {u:Value} {xs:List Value} (ho:W.ownsRow b T s u m xs) (hg:W.grownBy W' u.ownBlock) (ht:T≠3):aU W W':=by
 intro g cur hh;rw[hg.block g (ag hh) ?_]
 ·exact hh
 ·intro hu;obtain⟨-,c,e⟩:=da ho hu.symm;rw[hh] at e
  cases e
  exact ht rfl
theorem NBl.grown {b b' s m:Nat} {W W':World} {v x:Value} {n:Nat} {q:Nat→ap} {u:Nat→Value} {T:TypeId} {xs:List Value} (h:NBl b W v n q u) (ho:W.ownsRow b' T s x m xs) (hg:W.grownBy W' x.ownBlock) (t1:T≠92) (t2:T≠3):NBl b W' v n q u:=
 ⟨dS h.own hg (fun _ hk hk'=>lC h.own ho t1.symm hk hk'),fun j hj=>C8 (h.nat j hj) (qd ho hg t2)⟩
theorem et.apart {W W':World} {v u:Value} {n b s m:Nat} {xs:List Value} {q:Nat→ap} (h:et W v n q) (ho:W.ownsRow b 92 s u m xs) (hg:W.grownBy W' u.ownBlock) (hne:∀g,u.ownBlock=some g→v.ownBlock≠some g):et W' v n q:=by
 have k:=qd ho hg (by decide);obtain⟨ao,c,e,h⟩:=h;refine⟨ao,c,e,?_⟩;rcases h with h|⟨g,cur,e2,hg',h⟩
 ·exact .inl h
 ·refine .inr ⟨g,cur,e2,?_,fun j hj=>?_⟩
  ·rw[hg.block g (ag hg') ?_]
   ·exact hg'
   ·intro hu;refine hne g hu.symm ?_;rw[e,e2];simp[Value.ownBlock]
  ·obtain⟨o,l,c,a1,a2,a3,a4,a5⟩:=h j hj;exact⟨o,l,c,a1,a2,a3,a4,a5.keeps k⟩
theorem et.blk {W:World} {v:Value} {n g:Nat} {q:Nat→ap} (h:et W v n q) (hn:n≠0) (hg:v.ownBlock=some g):g<W.heap.size:=by
 obtain⟨ao,c,e,h⟩:=h;obtain⟨g',cur,e2,hg',-⟩:=h.resolve_left hn;rw[e,e2] at hg;simp[Value.ownBlock] at hg;subst hg;exact ag hg'
structure HdM (w wr:World) (n k i:Nat) (v10 v11:Value) (hv u:Nat→Value) (Q:Nat→Nat→ap) (B:Nat→ap):Prop where
 m:NMb w.heap.size wr v10 k n hv Q
 v:NBl w.heap.size wr v11 i B u
 sep:∀r,r<k→∀g,v11.ownBlock=some g→(hv r).ownBlock≠some g
 hb:Below w.heap.size w wr
theorem HdM.below {w wr W:World} {n k i:Nat} {v10 v11:Value} {hv u:Nat→Value} {Q:Nat→Nat→ap} {B:Nat→ap} (s:HdM w wr n k i v10 v11 hv u Q B) (hb:Below wr.heap.size wr W):HdM w W n k i v10 v11 hv u Q B:=
 ⟨s.m.below hb,s.v.below hb,s.sep,s.hb.trans (hb.mono s.hb.size)⟩
theorem NMb.congr {b:Nat} {W:World} {v:Value} {m n:Nat} {hv:Nat→Value} {Q Q':Nat→Nat→ap} (h:NMb b W v m n hv Q) (e:∀i,i<m→Q i=Q' i):NMb b W v m n hv Q':=⟨h.own,fun i hi=>by rw[←e i hi];exact h.row i hi⟩
theorem HdM.row {w W W1:World} {n i:Nat} {v10 v10' v11 r:Value} {hv u:Nat→Value} {Q:Nat→Nat→ap} {B:Nat→ap} {q:Nat→ap} {o:Obj} (s:HdM w W n i i v10 v11 hv u Q B) (hr:et W r n q) (hsep:∀g,v11.ownBlock=some g→r.ownBlock≠some g) (ho:W1.ownsRow w.heap.size 103 1 v10' (i+1) ((List.range i).map hv++[r])) (hg:(W.alloc o).grownBy W1 v10.ownBlock):
  HdM w W1 n (i+1) i v10' v11 (fun k=>if k=i then r else hv k) u (fun k=>if k=i then q else Q k) B:=by
 have ha:Below W.heap.size W (W.alloc o):=aK.alloc ae _;have s:=s.below ha;have hr:=hr.below ha;have m1:=s.m.congr (Q':=fun k=>if k=i then q else Q k) (fun j hj=>by rw[if_neg (by omega)]);refine⟨m1.push (by rw[if_pos rfl];exact hr) ho hg,s.v.grown s.m.own hg (by decide) (by decide),fun k hk g hgv=>?_,s.hb.grown hg s.hb.size (fun _ hk=>(da s.m.own hk).1)⟩;by_cases hki:k=i
 ·rw[if_pos hki];exact hsep g hgv
 ·rw[if_neg hki];exact s.sep k (by omega) g hgv
theorem HdM.num {w W W1:World} {n i:Nat} {v10 v11 v11':Value} {hv u:Nat→Value} {Q:Nat→Nat→ap} {B:Nat→ap} {q:ap} {yo:Option Addr} {yl yc:Nat} {o:Obj} (s:HdM w W n (i+1) i v10 v11 hv u Q B) (hn:n≠0) (hl:yl=(digits q.2.1).length) (hnat:aq W (.slice yo yl yc) q.2.1)
  (ho:W1.ownsRow w.heap.size 92 3 v11' (i+1) (nvs B u i++[.bool q.1,.slice yo yl yc,iV q.2.2])) (hg:(W.alloc o).grownBy W1 v11.ownBlock) (hbk:v11'.ownBlock=v11.ownBlock∨v11'.ownBlock=some (W.alloc o).heap.size):
  ∃u',HdM w W1 n (i+1) (i+1) v10 v11' hv u' Q (fun k=>if k=i then q else B k):=by
 have ha:Below W.heap.size W (W.alloc o):=aK.alloc ae _;have s:=s.below ha;have v1:=s.v.congr (q':=fun k=>if k=i then q else B k) (fun j hj=>by rw[if_neg (by omega)]);refine⟨_,⟨dS s.m.own hg (fun _ hk hk'=>lC s.m.own s.v.own (by decide) hk hk'),fun r hr=>(s.m.row r hr).apart s.v.own hg (fun g hgv=>s.sep r hr g hgv)⟩,v1.push (W0:=W.alloc o) (o:=yo) (l:=yl) (c:=yc) (by rw[if_pos rfl];exact hl) (by rw[if_pos rfl];exact hnat.below ha ae) ?_ hg aK,fun r hr g hgv=>?_,s.hb.grown hg s.hb.size (fun _ hk=>(da s.v.own hk).1)⟩
 ·rw[if_pos rfl,oX (q':=B) (u':=u) (fun j hj=>by rw[if_neg (by omega)]) (fun _ _=>rfl)];exact ho
 ·rcases hbk with hbk|hbk
  ·rw[hbk] at hgv;exact s.sep r hr g hgv
  ·rw[hbk] at hgv
   cases hgv
   intro hc;have:=(s.m.row r hr).blk hn hc;omega
theorem NBl.blk {b:Nat} {W:World} {v:Value} {n g:Nat} {q:Nat→ap} {u:Nat→Value} (h:NBl b W v n q u) (hg:v.ownBlock=some g):b≤g∧g<W.heap.size:=by
 obtain⟨h1,c,e⟩:=da h.own hg;exact⟨h1,ag e⟩
theorem NBk.store_ne {W:World} {g g':Nat} {x y:ap} {o yo:Option Addr} {l c yl yc:Nat} {a b e:Value} (h:NBk W g x o l c) (h':NBk W g' y yo yl yc) (hne:g≠g'):NBk (((W.setCell ⟨g',0,none⟩ a).setCell ⟨g',1,none⟩ b).setCell ⟨g',2,none⟩ e) g x o l c:=⟨aD h.blk hne,h.len,bM h.nat h'.blk⟩
theorem NBk.store {W:World} {g:Nat} {x y:ap} {o yo:Option Addr} {l c yl yc:Nat} (h:NBk W g x o l c) (hl:yl=(digits y.2.1).length) (hn:aq W (.slice yo yl yc) y.2.1):NBk (((W.setCell ⟨g,0,none⟩ (.bool y.1)).setCell ⟨g,1,none⟩ (.slice yo yl yc)).setCell ⟨g,2,none⟩ (iV y.2.2)) g y yo yl yc:=⟨aY h.blk,hl,bM hn h.blk⟩
theorem Ex {wr w:World} {gX gL gH:Nat} {x pl ph:ap} {xo lo_ ho_:Option Addr} {xl xc ll lc hl hc:Nat} (B:Below wr.heap.size wr w) (KX:NBk w gX x xo xl xc) (KL:NBk w gL pl lo_ ll lc) (KH:NBk w gH ph ho_ hl hc) (hL:wr.heap.size≤gL) (hH:wr.heap.size≤gH) (n1:gX≠gL) (n2:gX≠gH) (n3:gL≠gH) (X:Obj) (W:World)
  (e:W=((((((w.setCell ⟨gL,0,none⟩ (.bool ph.1)).setCell ⟨gL,1,none⟩ (.slice ho_ hl hc)).setCell ⟨gL,2,none⟩ (iV ph.2.2)).setCell ⟨gH,0,none⟩ (.bool pl.1)).setCell ⟨gH,1,none⟩ (.slice lo_ ll lc)).setCell ⟨gH,2,none⟩ (iV pl.2.2)).alloc X):
  NBk W gX x xo xl xc∧NBk W gL ph ho_ hl hc∧NBk W gH pl lo_ ll lc∧Below wr.heap.size wr W:=by
 subst e;have a1:=KL.store KH.len KH.nat
 have a2:=KH.store_ne (a:= .bool ph.1) (b:= .slice ho_ hl hc) (e:=iV ph.2.2) KL n3.symm;have a3:=KX.store_ne (a:= .bool ph.1) (b:= .slice ho_ hl hc) (e:=iV ph.2.2) KL n1;have a4:aq (((w.setCell ⟨gL,0,none⟩ (.bool ph.1)).setCell ⟨gL,1,none⟩ (.slice ho_ hl hc)).setCell ⟨gL,2,none⟩ (iV ph.2.2)) (.slice lo_ ll lc) pl.2.1:=bM KL.nat KL.blk;have b1:=a1.store_ne (a:= .bool pl.1) (b:= .slice lo_ ll lc) (e:=iV pl.2.2) a2 n3;have b2:=a2.store KL.len a4;have b3:=a3.store_ne (a:= .bool pl.1) (b:= .slice lo_ ll lc) (e:=iV pl.2.2) a2 n2;have hB:Below wr.heap.size wr ((((((w.setCell ⟨gL,0,none⟩ (.bool ph.1)).setCell ⟨gL,1,none⟩ (.slice ho_ hl hc)).setCell ⟨gL,2,none⟩ (iV ph.2.2)).setCell ⟨gH,0,none⟩ (.bool pl.1)).setCell ⟨gH,1,none⟩ (.slice lo_ ll lc)).setCell ⟨gH,2,none⟩ (iV pl.2.2)):=(((((B.setCell (by exact hL) _).setCell (by exact hL) _).setCell (by exact hL) _).setCell (by exact hH) _).setCell (by exact hH) _).setCell (by exact hH) _;have ha:=(Below.refl (((((((w.setCell ⟨gL,0,none⟩ (.bool ph.1)).setCell ⟨gL,1,none⟩ (.slice ho_ hl hc)).setCell ⟨gL,2,none⟩ (iV ph.2.2)).setCell ⟨gH,0,none⟩ (.bool pl.1)).setCell ⟨gH,1,none⟩ (.slice lo_ ll lc)).setCell ⟨gH,2,none⟩ (iV pl.2.2)).heap.size) _).alloc ae X;exact⟨b3.below ha,b1.below ha,b2.below ha,hB.alloc hB.size _⟩
theorem Rws.below {b bl:Nat} {W W':World} {v:Value} {m:Nat} {hv:Nat→Value} {ln:Nat→Nat} {R:Nat→Nat→Nat×Nat} (s:Rws b bl W v m hv ln R) (hb:Below W.heap.size W W'):Rws b bl W' v m hv ln R:=
 ⟨aH s.own hb ae,fun j hj=>aH (s.row j hj) hb ae,fun l hl=>aH (s.last l hl) hb ae,s.low,s.ge,Nat.le_trans s.le hb.size⟩
theorem FB {W:World} {b g c l:Nat} {T:TypeId} {hv:Nat→Value} {u:Value} (h:W.ownsRow b T 1 (.slice (some ⟨g,0,none⟩) (l+1) c) (l+1) ((List.range (l+1)).map hv)):(W.setCell ⟨g,l,none⟩ u).ownsRow b T 1 (.slice (some ⟨g,0,none⟩) (l+1) c) (l+1) ((List.range (l+1)).map (upd hv l u)):=by
 obtain⟨-,⟨e,-⟩|⟨g',c',cur,e,hb,h1,h2,h3,h4,h5⟩⟩:=h
 ·cases e
 ·cases e
  refine⟨by simp,.inr ⟨g,c,_,rfl,hb,fL h1 l u,h2,h3,by simpa using h4,?_⟩⟩;rw[Array.toList_setIfInBounds,List.take_set,h5];refine List.ext_getElem? fun i=>?_
  rw[List.getElem?_set];by_cases hi:l=i
  ·subst hi;simp[aN]
  ·rw[if_neg hi];by_cases hl:i<l+1
   ·rw[List.getElem?_map,List.getElem?_map,List.getElem?_range hl];simp[bn (show i≠l by omega)]
   ·rw[List.getElem?_eq_none (by simp;omega),List.getElem?_eq_none (by simp;omega)]
theorem Rws.push {b bl:Nat} {W W1:World} {u':Value} {l g c:Nat} {hv:Nat→Value} {ln:Nat→Nat} {R:Nat→Nat→Nat×Nat} {p:Nat×Nat} (s:Rws b bl W (.slice (some ⟨g,0,none⟩) (l+1) c) (l+1) hv ln R) (ho:W1.ownsRow bl 67 2 u' (ln l+1) (ivs (R l) (ln l)++[fV p.1,fV p.2])) (hg:W.grownBy W1 (hv l).ownBlock):
  Rws b bl (W1.setCell ⟨g,l,none⟩ u') (.slice (some ⟨g,0,none⟩) (l+1) c) (l+1) (upd hv l u') (upd ln l (ln l+1)) (upd R l (upd (R l) (ln l) p)):=by
 have hT:(67:TypeId)≠86:=by decide
 have own1:=dS s.own hg fun k hk hk'=>lC s.own (s.row l (by omega)) hT.symm hk hk'
 have hgb:(Value.slice (some ⟨g,0,none⟩) (l+1) c).ownBlock=some g:=by simp[Value.ownBlock]
 have hset:=db W1 g l u'
 have e1:ivs (upd (R l) (ln l) p) (ln l+1)=ivs (R l) (ln l)++[fV p.1,fV p.2]:=by
  rw[qK,aN]
  congr 1
  exact oW fun j hj=>bn (by omega)
 have hlast:(W1.setCell ⟨g,l,none⟩ u').ownsRow bl 67 2 u' (ln l+1) (ivs (upd (R l) (ln l) p) (ln l+1)):=by
  rw[e1];exact dS ho hset fun k hk hk'=>lC own1 ho hT.symm hgb (by rw[hk];exact hk'.symm)
 refine⟨FB own1,fun j hj=>?_,fun l' hl'=>?_,fun i k hi hk=>?_,s.ge,Nat.le_trans s.le (Nat.le_trans hg.size hset.size)⟩
 ·by_cases hjl:j=l
  ·subst hjl;rw[aN,aN,aN];exact aH hlast aK s.ge
  ·rw[bn hjl,bn hjl,bn hjl]
   have h1:=dS (s.row j hj) hg fun k hk hk'=>by
    have a:=s.low j k (by omega) hk;have b:=(da (s.last l rfl) hk').1;omega
   exact dS h1 hset fun k hk hk'=>lC own1 h1 hT.symm hgb (by rw[hk];exact hk'.symm)
 ·obtain rfl:l'=l:=by omega
  rw[aN,aN,aN];exact hlast
 ·rw[bn (by omega)] at hk;exact s.low i k hi hk
end
end Go.Proofs.YtonhpkigoplmaaaGreatDoor
