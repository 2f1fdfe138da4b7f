import Derived.Test.YtonhpkigoplmaaaGreatDoorZ09
import Derived.Deep.DeepCutAuto
set_option maxRecDepth 100000
set_option maxHeartbeats 40000000
namespace Go.Proofs.YtonhpkigoplmaaaGreatDoor
section
open Go.RowKit Go.Extern Ieee
attribute [local go_sem] av
theorem aR.set {A:Nat→Addr} {w:World} {v:Value} {k:Nat} {s:ByteArray} {g j:Nat} {u:Value} {t:TypeId} (h:aR A w v k s) (hg:aZ w g t) (ht:t≠138):aR A (w.setCell ⟨g,j,none⟩ u) v k s:=by
 rcases h with⟨rfl,rfl,rfl⟩|⟨k,h,rfl,rfl,rfl⟩|⟨k,h,b,hr,rfl,rfl⟩
 ·exact .nil
 ·exact .one k h
 ·
  refine .op k h b s ?_;obtain⟨vs,fz,hg⟩:=hg
  have:b≠g:=by
   rintro rfl;rw[hr] at hg;simp only[Option.some.injEq,Obj.cells.injEq] at hg;exact ht hg.2.1.symm
  rw[Below.heap_setCell _ _ _ _ (by exact this)];exact hr
theorem oL (x y:Nat) (w:World):(Instr.field 130 (gF x y) 0).run Tryz.prog w= .ok (fV x) w:=by kernel_rfl
theorem oH (x y:Nat) (w:World):(Instr.field 130 (gF x y) 1).run Tryz.prog w= .ok (fV y) w:=by kernel_rfl
theorem DJ (A:Nat→Addr) (al ah bl bh d1 u1 d2 u2:Nat) (p q:Int) (w:World) (hS:aE A w) (h1:bF 89 #[fV al,fV bl] d1 u1) (h2:bF 89 #[fV ah,fV bh] d2 u2) (hp:FR d1 p) (hq:FR u2 q):
  ax 44 #[gF al ah,gF bl bh] w fun ev w'=>OpR A w (boxP p q).1 (boxP p q).2.1 (boxP p q).2.2 (opS ⟨#[43]⟩ (boxP p q).2.2) ev w':=by
 have H1:Hid (∀w,aw 89 #[fV al,fV bl] w (gF d1 u1)):=h1;have H2:Hid (∀w,aw 89 #[fV ah,fV bh] w (gF d2 u2)):=h2;have HS:Hid (aE A w):=hS;have HI:Hid (∀w,aE A w→ax 88 #[.string ⟨#[43]⟩,fV d1,fV u2] w fun ev w'=>OpR A w (boxP p q).1 (boxP p q).2.1 (boxP p q).2.2 (opS ⟨#[43]⟩ (boxP p q).2.2) ev w'):=fun w hS=>jv A _ _ _ p q w hS hp hq
 generalize opS ⟨#[43]⟩ (boxP p q).2.2=sr at*;generalize boxP p q=r at*;obtain⟨r1,r2,r3⟩:=r;simp only at HI⊢;have f0:=oL;have f1:=oH;clear h1 h2 hS hp hq;go_enter Tryz.func44,Tryz.ntmps44;go_wp2_with fail;have B0:=ai (ai (af w (.cells #[fV al,fV ah] 67)) (.cells #[fV bl,fV bh] 67)) (.cells #[fV 0,fV 0] 67);have B1:=ai (af (w.alloc (.cells #[fV al,fV ah] 67)) (.cells #[fV bl,fV bh] 67)) (.cells #[fV 0,fV 0] 67);have B2:=af ((w.alloc (.cells #[fV al,fV ah] 67)).alloc (.cells #[fV bl,fV bh] 67)) (.cells #[fV 0,fV 0] 67);have hW:Below w.heap.size w (((w.alloc (.cells #[fV al,fV ah] 67)).alloc (.cells #[fV bl,fV bh] 67)).alloc (.cells #[fV 0,fV 0] 67)):=(aJ.alloc (by simp) _).alloc (by simp;omega) _;simp only[World.size_alloc] at B1 B2;generalize(((w.alloc (.cells #[fV al,fV ah] 67)).alloc (.cells #[fV bl,fV bh] 67)).alloc (.cells #[fV 0,fV 0] 67))=W2 at*;have HB0:Hid (W2.drew.heap[w.heap.size]?=_):=B0;have HB1:Hid (W2.drew.heap[w.heap.size+1]?=_):=B1;have HB2:Hid (W2.drew.heap[w.heap.size+1+1]?=_):=B2;have HW:Hid (Below w.heap.size w W2.drew):=hW.drew;obtain⟨a0,a1,-,-⟩:=aj B0;obtain⟨b0,b1,-,-⟩:=aj B1;clear B0 B1 B2 hW
 go_region_held3 (fun W=>W.cell? ⟨w.heap.size,0,none⟩=some (.float .f64 al)∧W.cell? ⟨w.heap.size,1,none⟩=some (.float .f64 ah)∧W.cell? ⟨w.heap.size+1,0,none⟩=some (.float .f64 bl)∧W.cell? ⟨w.heap.size+1,1,none⟩=some (.float .f64 bh)) (first|(go_keep;done)|(refine⟨?_,?_,?_,?_⟩<;>first|(go_keep;done)|(rw[aS (by omega),aS (by omega)];assumption)|assumption))
  (first
    |(go_at_call 89;with_reducible (refine (H1.out _).mono ?_);rintro e w3 ⟨rfl,hb3⟩
      have HB3:=hid hb3;obtain⟨a0,a1,-,-⟩:=aj (aa HB0.out hb3);obtain⟨b0,b1,-,-⟩:=aj (aa HB1.out hb3);clear hb3)
    |(go_at_call 89;with_reducible (refine (H2.out _).mono ?_);rintro e w4 ⟨rfl,hb4⟩
      have HB4:=hid hb4;obtain⟨a0,a1,-,-⟩:=aj (aa (aa HB0.out HB3.out) hb4);obtain⟨b0,b1,-,-⟩:=aj (aa (aa HB1.out HB3.out) hb4);clear hb4)
    |(go_at_call 88
      have HX:=hid ((HW.out.trans (HB3.out.mono HW.out.size)).trans (HB4.out.mono (Nat.le_trans HW.out.size HB3.out.size)));refine (HI.out _ (HS.out.below HX.out ae)).mono ?_;rintro e w5 ⟨v,rfl,hE,hb5⟩;have HE:=hid hE;have HB5:=hid hb5;obtain⟨a0,a1,-,-⟩:=aj (aa (aa (aa HB0.out HB3.out) HB4.out) hb5);obtain⟨b0,b1,-,-⟩:=aj (aa (aa (aa HB1.out HB3.out) HB4.out) hb5);obtain⟨k0,k1,k2,k3⟩:=aj (aa (aa (aa HB2.out HB3.out) HB4.out) hb5);clear hE hb5))
 go_wp2_with fail;have hBX:=aZ.of (aa (aa (aa HB2.out HB3.out) HB4.out) HB5.out);refine bodyPost_ret (v:= .tuple #[gF r1 r2,v]) (by simp[results,Tryz.results44,go_sem,k0,k1]) rfl ?_;exact⟨v,rfl,(HE.out.set hBX (by decide)).set hBX.set (by decide),((HX.out.trans (HB5.out.mono HX.out.size)).setCell (by simp;omega) _).setCell (by simp;omega) _⟩
theorem rY (al ah bl bh d1 u1 d2 u2:Nat) (w:World) (h1:bF 89 #[fV al,fV (negW bh)] d1 u1) (h2:bF 89 #[fV ah,fV (negW bl)] d2 u2):
  aw 90 #[gF al ah,gF bl bh] w (.tuple #[fV d1,fV u2]):=by
 have H1:Hid (∀w,aw 89 #[fV al,fV (negW bh)] w (gF d1 u1)):=h1;have H2:Hid (∀w,aw 89 #[fV ah,fV (negW bl)] w (gF d2 u2)):=h2;have n0:∀w,(Op.unary .neg (fV bl)).run Tryz.prog w= .ok (fV (negW bl)) w:=fun w=>cm w _
 have n1:∀w,(Op.unary .neg (fV bh)).run Tryz.prog w= .ok (fV (negW bh)) w:=fun w=>cm w _
 have f0:=oL;have f1:=oH;clear h1 h2;generalize negW bl=nl at*;generalize negW bh=nh at*;go_enter Tryz.func90,Tryz.ntmps90;go_wp2_with fail;have B0:=ai (af w (.cells #[fV al,fV ah] 67)) (.cells #[fV bl,fV bh] 67);have B1:=af (w.alloc (.cells #[fV al,fV ah] 67)) (.cells #[fV bl,fV bh] 67);have hW:Below w.heap.size w ((w.alloc (.cells #[fV al,fV ah] 67)).alloc (.cells #[fV bl,fV bh] 67)):=aJ.alloc (by simp) _;simp only[World.size_alloc] at B1;generalize((w.alloc (.cells #[fV al,fV ah] 67)).alloc (.cells #[fV bl,fV bh] 67))=W2 at*;have HB0:Hid (W2.drew.heap[w.heap.size]?=_):=B0;have HB1:Hid (W2.drew.heap[w.heap.size+1]?=_):=B1;have HW:Hid (Below w.heap.size w W2.drew):=hW.drew;obtain⟨a0,a1,-,-⟩:=aj B0;obtain⟨b0,b1,-,-⟩:=aj B1;clear B0 B1 hW
 go_region_held3 (fun W=>W.cell? ⟨w.heap.size,0,none⟩=some (.float .f64 al)∧W.cell? ⟨w.heap.size,1,none⟩=some (.float .f64 ah)∧W.cell? ⟨w.heap.size+1,0,none⟩=some (.float .f64 bl)∧W.cell? ⟨w.heap.size+1,1,none⟩=some (.float .f64 bh)) (first|(go_keep;done)|(refine⟨?_,?_,?_,?_⟩<;>first|(go_keep;done)|(rw[aS (by omega),aS (by omega)];assumption)|assumption))
  (first
    |(go_at_call 89;with_reducible (refine (H1.out _).mono ?_);rintro e w3 ⟨rfl,hb3⟩
      have HB3:=hid hb3;obtain⟨a0,a1,-,-⟩:=aj (aa HB0.out hb3);obtain⟨b0,b1,-,-⟩:=aj (aa HB1.out hb3);clear hb3)
    |(go_at_call 89;with_reducible (refine (H2.out _).mono ?_);rintro e w4 ⟨rfl,hb4⟩
      have HB4:=hid hb4;obtain⟨a0,a1,-,-⟩:=aj (aa (aa HB0.out HB3.out) hb4);obtain⟨b0,b1,-,-⟩:=aj (aa (aa HB1.out HB3.out) hb4);clear hb4))
 have hX:=(HW.out.trans (HB3.out.mono HW.out.size)).trans (HB4.out.mono (Nat.le_trans HW.out.size HB3.out.size));go_wp2_with fail;refine bodyPost_ret (v:= .tuple #[fV d1,fV u2]) (by simp[results,Tryz.results90,go_sem]) rfl ?_;exact⟨rfl,hX⟩
theorem Dv (A:Nat→Addr) (al ah bl bh d1 u1 d2 u2:Nat) (p q:Int) (w:World) (hS:aE A w) (h1:bF 89 #[fV al,fV (negW bh)] d1 u1) (h2:bF 89 #[fV ah,fV (negW bl)] d2 u2) (hp:FR d1 p) (hq:FR u2 q):
  ax 45 #[gF al ah,gF bl bh] w fun ev w'=>OpR A w (boxP p q).1 (boxP p q).2.1 (boxP p q).2.2 (opS ⟨#[45]⟩ (boxP p q).2.2) ev w':=by
 have HD:=hid (fun(w:World)=>rY al ah bl bh d1 u1 d2 u2 w h1 h2);have HS:=hid hS;have HI:Hid (∀w,aE A w→ax 88 #[.string ⟨#[45]⟩,fV d1,fV u2] w fun ev w'=>OpR A w (boxP p q).1 (boxP p q).2.1 (boxP p q).2.2 (opS ⟨#[45]⟩ (boxP p q).2.2) ev w'):=fun w hS=>jv A _ _ _ p q w hS hp hq
 generalize opS ⟨#[45]⟩ (boxP p q).2.2=sr at*;generalize boxP p q=r at*;obtain⟨r1,r2,r3⟩:=r;simp only at HI⊢;clear h1 h2 hS hp hq;go_enter Tryz.func45,Tryz.ntmps45;go_wp2_with fail;have B2:=af ((w.alloc (.cells #[fV al,fV ah] 67)).alloc (.cells #[fV bl,fV bh] 67)) (.cells #[fV 0,fV 0] 67);have hW:Below w.heap.size w (((w.alloc (.cells #[fV al,fV ah] 67)).alloc (.cells #[fV bl,fV bh] 67)).alloc (.cells #[fV 0,fV 0] 67)):=(aJ.alloc (by simp) _).alloc (by simp;omega) _;simp only[World.size_alloc] at B2;generalize(((w.alloc (.cells #[fV al,fV ah] 67)).alloc (.cells #[fV bl,fV bh] 67)).alloc (.cells #[fV 0,fV 0] 67))=W2 at*;refine (HD.out _).mono ?_;rintro e w8 ⟨rfl,hb8⟩;have hW8:=hW.trans (hb8.mono hW.size);have B28:=aa B2 hb8;clear hW B2 hb8 HD;go_wp2_with fail;refine (HI.out _ (HS.out.below hW8 ae)).mono ?_;rintro e w9 ⟨v,rfl,hE,hb9⟩;have HE:=hid hE;have HB9:=hid (hW8.trans (hb9.mono hW8.size));have HK9:=hid (aa B28 hb9);obtain⟨k0,k1,k2,k3⟩:=aj HK9.out;clear hE hb9 hW8 B28 HI HS;go_wp2_with fail;have hBX:=aZ.of HK9.out;refine bodyPost_ret (v:= .tuple #[gF r1 r2,v]) (by simp[results,Tryz.results45,go_sem,k0,k1]) rfl ?_;exact⟨v,rfl,(HE.out.set hBX (by decide)).set hBX.set (by decide),(HB9.out.setCell (by simp;omega) _).setCell (by simp;omega) _⟩
end
section
open Go.RowKit Go.Extern Ieee
attribute [local go_sem] av
theorem A8 (w:World) (x y:Nat) (s:ByteArray) (a:Addr):(((w.alloc (.cells #[fV x,fV y] 67)).alloc (.cells #[fV 0,fV 0] 67)).alloc (.cells #[.string s,.iface 229 (.pointer (some a))] 138)).drew.heap[w.heap.size+1+1]?=some (.cells #[.string s,.iface 229 (.pointer (some a))] 138 (0,0)):=by
 have:=af ((w.alloc (.cells #[fV x,fV y] 67)).alloc (.cells #[fV 0,fV 0] 67)) (.cells #[.string s,.iface 229 (.pointer (some a))] 138);simp only[World.size_alloc] at this;exact this
theorem Dm (A:Nat→Addr) (al ah:Nat) (w:World) (hS:aE A w) (h:FloatKind.f64.format.order al 0=some .lt):
  ax 48 #[gF al ah] w fun ev w'=>OpR A w 0 0 5 ⟨#[115,113,114,116]⟩ ev w':=by
 have c2:w.cell? ⟨2,0,none⟩=some (aL (A 4)):=hS.cell 4 (by omega);have hl2:=bL c2;clear hS;go_enter Tryz.func48,Tryz.ntmps48;go_wp2_with fail;go_region;go_wp2_with fail;refine bodyPost_ret (v:= .tuple #[gF 0 0,.iface 136 (.pointer (some ⟨w.heap.size+1+1,0,none⟩))]) (by simp[results,Tryz.results48,go_sem]) rfl ?_;exact⟨_,rfl,.op 4 (by omega) _ _ (A8 w al ah _ (A 4)),((aJ.alloc (by simp) _).alloc (by simp;omega) _).drew⟩
theorem At (A:Nat→Addr) (al ah d1 u1 d2 u2:Nat) (o:Ordering) (p q:Int) (w:World) (hS:aE A w) (ho:FloatKind.f64.format.order al 0=some o) (hno:o≠.lt) (h1:bF 95 #[fV al] d1 u1) (h2:bF 95 #[fV ah] d2 u2) (hp:FR d1 p) (hq:FR u2 q):
  ax 48 #[gF al ah] w fun ev w'=>OpR A w (boxP p q).1 (boxP p q).2.1 (boxP p q).2.2 (opS ⟨#[115,113,114,116]⟩ (boxP p q).2.2) ev w':=by
 have H1:Hid (∀w,aw 95 #[fV al] w (gF d1 u1)):=h1;have H2:Hid (∀w,aw 95 #[fV ah] w (gF d2 u2)):=h2;have HS:Hid (aE A w):=hS;have HI:Hid (∀w,aE A w→ax 88 #[.string ⟨#[115,113,114,116]⟩,fV d1,fV u2] w fun ev w'=>OpR A w (boxP p q).1 (boxP p q).2.1 (boxP p q).2.2 (opS ⟨#[115,113,114,116]⟩ (boxP p q).2.2) ev w'):=fun w hS=>jv A _ _ _ p q w hS hp hq
 generalize opS ⟨#[115,113,114,116]⟩ (boxP p q).2.2=sr at*;generalize boxP p q=r at*;obtain⟨r1,r2,r3⟩:=r;simp only at HI⊢;have hlt:(FloatKind.f64.format.order al 0==some Ordering.lt)=false:=by rw[ho];cases o<;>first|rfl|exact absurd rfl hno
 have f0:=oL;have f1:=oH;clear h1 h2 hS hp hq ho hno;go_enter Tryz.func48,Tryz.ntmps48;go_wp2_with fail;have B0:=ai (af w (.cells #[fV al,fV ah] 67)) (.cells #[fV 0,fV 0] 67);have B2:=af (w.alloc (.cells #[fV al,fV ah] 67)) (.cells #[fV 0,fV 0] 67);have hW:Below w.heap.size w ((w.alloc (.cells #[fV al,fV ah] 67)).alloc (.cells #[fV 0,fV 0] 67)):=aJ.alloc (by simp) _;simp only[World.size_alloc] at B2;generalize((w.alloc (.cells #[fV al,fV ah] 67)).alloc (.cells #[fV 0,fV 0] 67))=W2 at*;have HB0:Hid (W2.drew.heap[w.heap.size]?=_):=B0;have HB2:Hid (W2.drew.heap[w.heap.size+1]?=_):=B2;have HW:Hid (Below w.heap.size w W2.drew):=hW.drew;obtain⟨a0,a1,-,-⟩:=aj B0;clear B0 B2 hW
 go_region_held3 (fun W=>W.cell? ⟨w.heap.size,0,none⟩=some (.float .f64 al)∧W.cell? ⟨w.heap.size,1,none⟩=some (.float .f64 ah)) (first|(go_keep;done)|(refine⟨?_,?_⟩<;>first|(go_keep;done)|(rw[aS (by omega),aS (by omega)];assumption)|assumption))
  (first
    |(go_at_call 95;with_reducible (refine (H1.out _).mono ?_);rintro e w3 ⟨rfl,hb3⟩
      have HB3:=hid hb3;obtain⟨a0,a1,-,-⟩:=aj (aa HB0.out hb3);clear hb3)
    |(go_at_call 95;with_reducible (refine (H2.out _).mono ?_);rintro e w4 ⟨rfl,hb4⟩
      have HB4:=hid hb4;obtain⟨a0,a1,-,-⟩:=aj (aa (aa HB0.out HB3.out) hb4);clear hb4)
    |(go_at_call 88
      have HX:=hid ((HW.out.trans (HB3.out.mono HW.out.size)).trans (HB4.out.mono (Nat.le_trans HW.out.size HB3.out.size)));refine (HI.out _ (HS.out.below HX.out ae)).mono ?_;rintro e w5 ⟨v,rfl,hE,hb5⟩;have HE:=hid hE;have HB5:=hid hb5;obtain⟨a0,a1,-,-⟩:=aj (aa (aa (aa HB0.out HB3.out) HB4.out) hb5);obtain⟨k0,k1,k2,k3⟩:=aj (aa (aa (aa HB2.out HB3.out) HB4.out) hb5);clear hE hb5))
 go_wp2_with fail;have hBX:=aZ.of (aa (aa (aa HB2.out HB3.out) HB4.out) HB5.out);refine bodyPost_ret (v:= .tuple #[gF r1 r2,v]) (by simp[results,Tryz.results48,go_sem,k0,k1]) rfl ?_;exact⟨v,rfl,(HE.out.set hBX (by decide)).set hBX.set (by decide),((HX.out.trans (HB5.out.mono HX.out.size)).setCell (by simp) _).setCell (by simp) _⟩
theorem Dg (al ah bl bh:Nat) (p1 p2 p3 p4:Int) (w:World) (h1:FR al p1) (h2:FR ah p2) (h3:FR bl p3) (h4:FR bh p4):
  aw 42 #[gF al ah,gF bl bh] w (.agg #[fV (fmin al bl),fV (fmax ah bh)]):=by
 have m1:∀(w:World) (ts:Array TypeId) (t:TypeId),(Builtin.min_ ts t #[fV al,fV bl]).run Tryz.prog w= .ok (fV (fmin al bl)) w:=fun w ts t=>bz w ts t h1 h3
 have m2:∀(w:World) (ts:Array TypeId) (t:TypeId),(Builtin.max_ ts t #[fV ah,fV bh]).run Tryz.prog w= .ok (fV (fmax ah bh)) w:=fun w ts t=>bA w ts t h2 h4
 generalize fmin al bl=lo at*;generalize fmax ah bh=hi at*;clear h1 h2 h3 h4;go_enter Tryz.func42,Tryz.ntmps42;go_wp2;refine bodyPost_ret (v:=gF lo hi) (by simp[results,Tryz.results42,go_sem]) rfl ?_;exact⟨rfl,(aJ.alloc (by simp) _).alloc (by simp;omega) _⟩
end
section
open Go.RowKit Go.Extern Ieee
attribute [local go_sem] av
theorem AG (A:Nat→Addr) (al ah bl bh:Nat) (p1 p2 p3 p4:Int) (w:World) (hS:aE A w) (h1:FR al p1) (h2:FR ah p2) (h3:FR bl p3) (h4:FR bh p4) (ho:FloatKind.f64.format.order (fmax al bl) (fmin ah bh)=some .gt):
  ax 43 #[gF al ah,gF bl bh] w fun ev w'=>OpR A w 0 0 6 ⟨#[]⟩ ev w':=by
 have m1:∀(w:World) (ts:Array TypeId) (t:TypeId),(Builtin.max_ ts t #[fV al,fV bl]).run Tryz.prog w= .ok (fV (fmax al bl)) w:=fun w ts t=>bA w ts t h1 h3
 have m2:∀(w:World) (ts:Array TypeId) (t:TypeId),(Builtin.min_ ts t #[fV ah,fV bh]).run Tryz.prog w= .ok (fV (fmin ah bh)) w:=fun w ts t=>bz w ts t h2 h4
 have c2:w.cell? ⟨0,0,none⟩=some (aL (A 5)):=hS.cell 5 (by omega);have hl2:=bL c2;generalize fmax al bl=lo at*;generalize fmin ah bh=hi at*;clear h1 h2 h3 h4 hS;go_enter Tryz.func43,Tryz.ntmps43;go_wp2_with fail;go_region;go_wp2_with fail;go_region;go_wp2_with fail;refine bodyPost_ret (v:= .tuple #[gF 0 0,aL (A 5)]) (by simp[results,Tryz.results43,go_sem]) rfl ?_;exact⟨_,rfl,.one 5 (by omega),((aJ.alloc (by simp) _).alloc (by simp;omega) _).drew.drew⟩
theorem zX (A:Nat→Addr) (al ah bl bh:Nat) (p1 p2 p3 p4:Int) (o:Ordering) (w:World) (h1:FR al p1) (h2:FR ah p2) (h3:FR bl p3) (h4:FR bh p4) (ho:FloatKind.f64.format.order (fmax al bl) (fmin ah bh)=some o) (hno:o≠.gt):
  ax 43 #[gF al ah,gF bl bh] w fun ev w'=>OpR A w (fmax al bl) (fmin ah bh) 0 ⟨#[]⟩ ev w':=by
 have m1:∀(w:World) (ts:Array TypeId) (t:TypeId),(Builtin.max_ ts t #[fV al,fV bl]).run Tryz.prog w= .ok (fV (fmax al bl)) w:=fun w ts t=>bA w ts t h1 h3
 have m2:∀(w:World) (ts:Array TypeId) (t:TypeId),(Builtin.min_ ts t #[fV ah,fV bh]).run Tryz.prog w= .ok (fV (fmin ah bh)) w:=fun w ts t=>bz w ts t h2 h4
 have hgt:(FloatKind.f64.format.order (fmax al bl) (fmin ah bh)==some Ordering.gt)=false:=by rw[ho];cases o<;>first|rfl|exact absurd rfl hno
 generalize fmax al bl=lo at*;generalize fmin ah bh=hi at*;clear h1 h2 h3 h4 ho hno;go_enter Tryz.func43,Tryz.ntmps43;go_wp2_with fail;go_region;go_wp2_with fail;refine bodyPost_ret (v:= .tuple #[gF lo hi,.nilIface]) (by simp[results,Tryz.results43,go_sem]) rfl ?_;exact⟨_,rfl,.nil,((aJ.alloc (by simp) _).alloc (by simp;omega) _).drew⟩
theorem oA (al ah:Nat) (o1 o2:Ordering) (w:World) (h1:FloatKind.f64.format.order al 0=some o1) (h2:FloatKind.f64.format.order ah 0=some o2):
  aw 93 #[gF al ah] w (.bool (o1 != .gt && o2 != .lt)):=by
 cases o1<;>cases o2<;>
 (go_enter Tryz.func93,Tryz.ntmps93
  go_wp2
  go_ret
  exact⟨rfl,aK.alloc ae _⟩)
theorem Ep (al ah:Nat) (w:World) (hl:negW al<18446744073709551616) (hh:negW ah<18446744073709551616) (pl:(au (negW al)).isSome=true) (ph:(au (negW ah)).isSome=true):
  aw 41 #[gF al ah] w (.agg #[fV (posW (negW ah)),fV (posW (negW al))]):=by
 have H1:=hid (fun(w:World)=>iD _ w hh ph);have H2:=hid (fun(w:World)=>iD _ w hl pl);have n0:∀w,(Op.unary .neg (fV al)).run Tryz.prog w= .ok (fV (negW al)) w:=fun w=>cm w _
 have n1:∀w,(Op.unary .neg (fV ah)).run Tryz.prog w= .ok (fV (negW ah)) w:=fun w=>cm w _
 clear hl hh pl ph;generalize posW (negW al)=rl at*;generalize posW (negW ah)=rh at*;generalize negW al=nl at*;generalize negW ah=nh at*;go_enter Tryz.func41,Tryz.ntmps41;go_wp2_with fail;have B0:=ai (af w (.cells #[fV al,fV ah] 67)) (.cells #[fV 0,fV 0] 67);have B2:=af (w.alloc (.cells #[fV al,fV ah] 67)) (.cells #[fV 0,fV 0] 67);have hW:Below w.heap.size w ((w.alloc (.cells #[fV al,fV ah] 67)).alloc (.cells #[fV 0,fV 0] 67)):=aJ.alloc (by simp) _;simp only[World.size_alloc] at B2;generalize((w.alloc (.cells #[fV al,fV ah] 67)).alloc (.cells #[fV 0,fV 0] 67))=W2 at*;have HW:=hid hW.drew;obtain⟨a0,a1,-,-⟩:=aj B0;obtain⟨k0,k1,k2,k3⟩:=aj B2;clear B0 B2 hW
 go_region_held3 (fun W=>W.cell? ⟨w.heap.size,0,none⟩=some (.float .f64 al)∧W.cell? ⟨w.heap.size,1,none⟩=some (.float .f64 ah)) (first|(go_keep;done)|(refine⟨?_,?_⟩<;>first|(go_keep;done)|(rw[aS (by omega),aS (by omega)];assumption)|assumption))
  (first
    |(go_at_call 87;with_reducible (refine (H1.out _).mono ?_);rintro e w3 ⟨rfl,rfl⟩)
    |(go_at_call 87;with_reducible (refine (H2.out _).mono ?_);rintro e w3 ⟨rfl,rfl⟩))
 go_wp2_with fail;refine bodyPost_ret (v:=gF rh rl) (by simp[results,Tryz.results41,go_sem,k0,k1]) rfl ?_;exact⟨rfl,(HW.out.setCell (by simp) _).setCell (by simp) _⟩
end
section
open Go.RowKit Go.Extern Ieee
attribute [local go_sem] av
theorem Ei (A:Nat→Addr) (al ah bl bh lo hi:Nat) (p q:Int) (w:World) (hS:aE A w) (hC:∀w,aw 91 #[.func (.func 92) #[] #[],gF al ah,gF bl bh] w (.tuple #[fV lo,fV hi])) (hp:FR lo p) (hq:FR hi q):
  ax 46 #[gF al ah,gF bl bh] w fun ev w'=>OpR A w (boxP p q).1 (boxP p q).2.1 (boxP p q).2.2 (opS ⟨#[42]⟩ (boxP p q).2.2) ev w':=by
 have HC:Hid (∀w,aw 91 #[.func (.func 92) #[] #[],gF al ah,gF bl bh] w (.tuple #[fV lo,fV hi])):=hC;have HS:Hid (aE A w):=hS;have HI:Hid (∀w,aE A w→ax 88 #[.string ⟨#[42]⟩,fV lo,fV hi] w fun ev w'=>OpR A w (boxP p q).1 (boxP p q).2.1 (boxP p q).2.2 (opS ⟨#[42]⟩ (boxP p q).2.2) ev w'):=fun w hS=>jv A _ _ _ p q w hS hp hq
 generalize opS ⟨#[42]⟩ (boxP p q).2.2=sr at*;generalize boxP p q=r at*;obtain⟨r1,r2,r3⟩:=r;simp only at HI⊢;clear hC hS hp hq;go_enter Tryz.func46,Tryz.ntmps46;go_wp2_with fail;have B2:=af ((w.alloc (.cells #[fV al,fV ah] 67)).alloc (.cells #[fV bl,fV bh] 67)) (.cells #[fV 0,fV 0] 67);have hW:Below w.heap.size w (((w.alloc (.cells #[fV al,fV ah] 67)).alloc (.cells #[fV bl,fV bh] 67)).alloc (.cells #[fV 0,fV 0] 67)):=(aJ.alloc (by simp) _).alloc (by simp;omega) _;simp only[World.size_alloc] at B2;generalize(((w.alloc (.cells #[fV al,fV ah] 67)).alloc (.cells #[fV bl,fV bh] 67)).alloc (.cells #[fV 0,fV 0] 67))=W2 at*;refine (HC.out _).mono ?_;rintro e w8 ⟨rfl,hb8⟩;have hW8:Below w.heap.size w w8:=hW.trans (hb8.mono hW.size);have B28:w8.heap[w.heap.size+1+1]?=_:=aa B2 hb8;clear hW B2 hb8 HC;go_wp2_with fail;refine (HI.out _ (HS.out.below hW8 ae)).mono ?_;rintro e w9 ⟨v,rfl,hE,hb9⟩;have HE:Hid (aR A w9 v _ _):=hE;have HB9:Hid (Below w.heap.size w w9):=hW8.trans (hb9.mono hW8.size);have HK9:Hid (w9.heap[w.heap.size+1+1]?=_):=aa B28 hb9;obtain⟨k0,k1,k2,k3⟩:=aj HK9.out;clear hE hb9 hW8 B28 HI HS;go_wp2_with fail;have hBX:aZ w9 (w.heap.size+1+1) 67:=aZ.of HK9.out;refine bodyPost_ret (v:= .tuple #[gF r1 r2,v]) (by simp[results,Tryz.results46,go_sem,k0,k1]) rfl ?_;exact⟨v,rfl,(HE.out.set hBX (by decide)).set hBX.set (by decide),(HB9.out.setCell (by simp;omega) _).setCell (by simp;omega) _⟩
theorem aR.drew {A:Nat→Addr} {w:World} {v:Value} {k:Nat} {s:ByteArray} (h:aR A w v k s):aR A w.drew v k s:=by
 rcases h with⟨rfl,rfl,rfl⟩|⟨k,h,rfl,rfl,rfl⟩|⟨k,h,b,hr,rfl,rfl⟩
 ·exact .nil
 ·exact .one k h
 ·exact .op k h b s hr
theorem Hz (w:World) (x y z t:Nat) (s:ByteArray) (a:Addr):((((w.alloc (.cells #[fV x,fV y] 67)).alloc (.cells #[fV z,fV t] 67)).alloc (.cells #[fV 0,fV 0] 67)).alloc (.cells #[.string s,.iface 229 (.pointer (some a))] 138)).drew.heap[w.heap.size+1+1+1]?=some (.cells #[.string s,.iface 229 (.pointer (some a))] 138 (0,0)):=by
 have:=af (((w.alloc (.cells #[fV x,fV y] 67)).alloc (.cells #[fV z,fV t] 67)).alloc (.cells #[fV 0,fV 0] 67)) (.cells #[.string s,.iface 229 (.pointer (some a))] 138);simp only[World.size_alloc] at this;exact this
theorem Bg (A:Nat→Addr) (al ah bl bh:Nat) (o1 o2:Ordering) (w:World) (hS:aE A w) (h1:FloatKind.f64.format.order bl 0=some o1) (h2:FloatKind.f64.format.order bh 0=some o2) (hz:(o1 != .gt && o2 != .lt)=true):
  ax 47 #[gF al ah,gF bl bh] w fun ev w'=>OpR A w 0 0 4 ⟨#[47]⟩ ev w':=by
 have HH:Hid (∀w,aw 93 #[gF bl bh] w (.bool true)):=by
  intro w;have:=oA bl bh o1 o2 w h1 h2;rwa [hz] at this
 have HS:Hid (aE A w):=hS;clear h1 h2 hz hS;go_enter Tryz.func47,Tryz.ntmps47;go_wp2_with fail;have B2:=af ((w.alloc (.cells #[fV al,fV ah] 67)).alloc (.cells #[fV bl,fV bh] 67)) (.cells #[fV 0,fV 0] 67);have hW:Below w.heap.size w (((w.alloc (.cells #[fV al,fV ah] 67)).alloc (.cells #[fV bl,fV bh] 67)).alloc (.cells #[fV 0,fV 0] 67)):=(aJ.alloc (by simp) _).alloc (by simp;omega) _;simp only[World.size_alloc] at B2;generalize(((w.alloc (.cells #[fV al,fV ah] 67)).alloc (.cells #[fV bl,fV bh] 67)).alloc (.cells #[fV 0,fV 0] 67))=W2 at*;refine (HH.out _).mono ?_;rintro e w9 ⟨rfl,hb9⟩;have HB9:Hid (Below w.heap.size w w9):=hW.trans (hb9.mono hW.size);have HK9:Hid (w9.heap[w.heap.size+1+1]?=_):=aa B2 hb9;obtain⟨k0,k1,k2,k3⟩:=aj HK9.out;have c2:w9.cell? ⟨1,0,none⟩=some (aL (A 3)):=(HS.out.below HB9.out ae).cell 3 (by omega);have hl2:=bL c2;have HK10:Hid ((w9.alloc (.cells #[.string ⟨#[47]⟩,aL (A 3)] 138)).heap[w.heap.size+1+1]?=_):=ai HK9.out _;obtain⟨l0,l1,l2,l3⟩:=aj HK10.out;have HN:Hid ((w9.alloc (.cells #[.string ⟨#[47]⟩,aL (A 3)] 138)).heap[w9.heap.size]?=_):=af w9 _;have HA:Hid ((((w9.setCell ⟨w.heap.size+1+1,0,none⟩ (fV 0)).setCell ⟨w.heap.size+1+1,1,none⟩ (fV 0)).alloc (.cells #[.string ⟨#[47]⟩,aL (A 3)] 138)).heap[w.heap.size+1+1]?=_):=ai (aA HK9.out) _;have HB:Hid ((((w9.alloc (.cells #[.string ⟨#[47]⟩,aL (A 3)] 138)).setCell ⟨w.heap.size+1+1,0,none⟩ (fV 0)).setCell ⟨w.heap.size+1+1,1,none⟩ (fV 0)).heap[w.heap.size+1+1]?=_):=aA HK10.out
 have HAN:Hid ((((w9.setCell ⟨w.heap.size+1+1,0,none⟩ (fV 0)).setCell ⟨w.heap.size+1+1,1,none⟩ (fV 0)).alloc (.cells #[.string ⟨#[47]⟩,aL (A 3)] 138)).heap[w9.heap.size]?=some (.cells #[.string ⟨#[47]⟩,aL (A 3)] 138 (0,0))):=by
  have:=af ((w9.setCell ⟨w.heap.size+1+1,0,none⟩ (fV 0)).setCell ⟨w.heap.size+1+1,1,none⟩ (fV 0)) (.cells #[.string ⟨#[47]⟩,aL (A 3)] 138);simp only[World.size_setCell] at this;exact this
 have HEA:Hid (aR A (((w9.setCell ⟨w.heap.size+1+1,0,none⟩ (fV 0)).setCell ⟨w.heap.size+1+1,1,none⟩ (fV 0)).alloc (.cells #[.string ⟨#[47]⟩,aL (A 3)] 138)).drew (.iface 136 (.pointer (some ⟨w9.heap.size,0,none⟩))) 4 ⟨#[47]⟩):=aR.op 3 (by omega) _ _ HAN.out;have HEB0:Hid (aR A (w9.alloc (.cells #[.string ⟨#[47]⟩,aL (A 3)] 138)) (.iface 136 (.pointer (some ⟨w9.heap.size,0,none⟩))) 4 ⟨#[47]⟩):=aR.op 3 (by omega) _ _ HN.out;have hBX:aZ (w9.alloc (.cells #[.string ⟨#[47]⟩,aL (A 3)] 138)) (w.heap.size+1+1) 67:=aZ.of HK10.out;have HEB1:Hid (aR A (((w9.alloc (.cells #[.string ⟨#[47]⟩,aL (A 3)] 138)).setCell ⟨w.heap.size+1+1,0,none⟩ (fV 0)).setCell ⟨w.heap.size+1+1,1,none⟩ (fV 0)) (.iface 136 (.pointer (some ⟨w9.heap.size,0,none⟩))) 4 ⟨#[47]⟩):=(HEB0.out.set hBX (by decide)).set hBX.set (by decide);have HEB:Hid (aR A (((w9.alloc (.cells #[.string ⟨#[47]⟩,aL (A 3)] 138)).setCell ⟨w.heap.size+1+1,0,none⟩ (fV 0)).setCell ⟨w.heap.size+1+1,1,none⟩ (fV 0)).drew (.iface 136 (.pointer (some ⟨w9.heap.size,0,none⟩))) 4 ⟨#[47]⟩):=HEB1.out.drew;have HBA:Hid (Below w.heap.size w (((w9.setCell ⟨w.heap.size+1+1,0,none⟩ (fV 0)).setCell ⟨w.heap.size+1+1,1,none⟩ (fV 0)).alloc (.cells #[.string ⟨#[47]⟩,aL (A 3)] 138)).drew):=(((HB9.out.setCell (by simp;omega) _).setCell (by simp;omega) _).alloc (by have:=HB9.out.size;simp;omega) _).drew;have HBB:Hid (Below w.heap.size w (((w9.alloc (.cells #[.string ⟨#[47]⟩,aL (A 3)] 138)).setCell ⟨w.heap.size+1+1,0,none⟩ (fV 0)).setCell ⟨w.heap.size+1+1,1,none⟩ (fV 0)).drew):=(((HB9.out.alloc HB9.out.size _).setCell (by simp;omega) _).setCell (by simp;omega) _).drew;obtain⟨p0,p1,-,-⟩:=aj HA.out;obtain⟨q0,q1,-,-⟩:=aj HB.out;clear hb9 hW B2 HH HS hBX;go_wp2_with fail;go_region
 all_goals go_wp2_with fail
 all_goals refine bodyPost_ret (v:= .tuple #[gF 0 0,.iface 136 (.pointer (some ⟨w9.heap.size,0,none⟩))]) (by simp[results,Tryz.results47,go_sem,p0,p1,q0,q1]) rfl ?_
 all_goals first
  |exact⟨_,rfl,HEA.out,HBA.out⟩
  |exact⟨_,rfl,HEB.out,HBB.out⟩
theorem DT (A:Nat→Addr) (al ah bl bh lo hi:Nat) (p q:Int) (o1 o2:Ordering) (w:World) (hS:aE A w) (h1:FloatKind.f64.format.order bl 0=some o1) (h2:FloatKind.f64.format.order bh 0=some o2) (hz:(o1 != .gt && o2 != .lt)=false) (hC:∀w,aw 91 #[.func (.func 94) #[] #[],gF al ah,gF bl bh] w (.tuple #[fV lo,fV hi])) (hp:FR lo p) (hq:FR hi q):
  ax 47 #[gF al ah,gF bl bh] w fun ev w'=>OpR A w (boxP p q).1 (boxP p q).2.1 (boxP p q).2.2 (opS ⟨#[47]⟩ (boxP p q).2.2) ev w':=by
 have HH:Hid (∀w,aw 93 #[gF bl bh] w (.bool false)):=by
  intro w;have:=oA bl bh o1 o2 w h1 h2;rwa [hz] at this
 have HC:Hid (∀w,aw 91 #[.func (.func 94) #[] #[],gF al ah,gF bl bh] w (.tuple #[fV lo,fV hi])):=hC;have HS:Hid (aE A w):=hS;have HI:Hid (∀w,aE A w→ax 88 #[.string ⟨#[47]⟩,fV lo,fV hi] w fun ev w'=>OpR A w (boxP p q).1 (boxP p q).2.1 (boxP p q).2.2 (opS ⟨#[47]⟩ (boxP p q).2.2) ev w'):=fun w hS=>jv A _ _ _ p q w hS hp hq
 generalize opS ⟨#[47]⟩ (boxP p q).2.2=sr at*;generalize boxP p q=r at*;obtain⟨r1,r2,r3⟩:=r;simp only at HI⊢;clear h1 h2 hz hS hC hp hq;go_enter Tryz.func47,Tryz.ntmps47;go_wp2_with fail;have B0:=ai (ai (af w (.cells #[fV al,fV ah] 67)) (.cells #[fV bl,fV bh] 67)) (.cells #[fV 0,fV 0] 67);have B1:=ai (af (w.alloc (.cells #[fV al,fV ah] 67)) (.cells #[fV bl,fV bh] 67)) (.cells #[fV 0,fV 0] 67);have B2:=af ((w.alloc (.cells #[fV al,fV ah] 67)).alloc (.cells #[fV bl,fV bh] 67)) (.cells #[fV 0,fV 0] 67);have hW:Below w.heap.size w (((w.alloc (.cells #[fV al,fV ah] 67)).alloc (.cells #[fV bl,fV bh] 67)).alloc (.cells #[fV 0,fV 0] 67)):=(aJ.alloc (by simp) _).alloc (by simp;omega) _;simp only[World.size_alloc] at B1 B2;generalize(((w.alloc (.cells #[fV al,fV ah] 67)).alloc (.cells #[fV bl,fV bh] 67)).alloc (.cells #[fV 0,fV 0] 67))=W2 at*;refine (HH.out _).mono ?_;rintro e w7 ⟨rfl,hb7⟩;have hW7:Below w.heap.size w w7:=hW.trans (hb7.mono hW.size);have B27:w7.heap[w.heap.size+1+1]?=_:=aa B2 hb7;obtain⟨a0,a1,-,-⟩:=aj (aa B0 hb7);obtain⟨b0,b1,-,-⟩:=aj (aa B1 hb7);clear HH hW B2 B0 B1 hb7;go_wp2_with fail;refine (HC.out _).mono ?_;rintro e w8 ⟨rfl,hb8⟩;have hW8:Below w.heap.size w w8:=hW7.trans (hb8.mono hW7.size);have B28:w8.heap[w.heap.size+1+1]?=_:=aa B27 hb8;clear hW7 B27 hb8 HC a0 a1 b0 b1;go_wp2_with fail;refine (HI.out _ (HS.out.below hW8 ae)).mono ?_;rintro e w9 ⟨v,rfl,hE,hb9⟩;have HE:Hid (aR A w9 v _ _):=hE;have HB9:Hid (Below w.heap.size w w9):=hW8.trans (hb9.mono hW8.size);have HK9:Hid (w9.heap[w.heap.size+1+1]?=_):=aa B28 hb9;obtain⟨k0,k1,k2,k3⟩:=aj HK9.out;clear hE hb9 hW8 B28 HI HS;go_wp2_with fail;have hBX:aZ w9 (w.heap.size+1+1) 67:=aZ.of HK9.out;refine bodyPost_ret (v:= .tuple #[gF r1 r2,v]) (by simp[results,Tryz.results47,go_sem,k0,k1]) rfl ?_;exact⟨v,rfl,(HE.out.set hBX (by decide)).set hBX.set (by decide),(HB9.out.setCell (by simp;omega) _).setCell (by simp;omega) _⟩
end
section
open Go.RowKit Go.Extern Ieee
attribute [local go_sem] av
theorem gh (A:Nat→Addr) (lo hi:Nat) (w:World) (h1:lo<18446744073709551616) (h2:hi<18446744073709551616) (hS:aE A w):
  aw 40 #[gU lo hi] w (.agg #[fV (makeN lo hi).1,fV (makeN lo hi).2.1]):=by
 have H1:=hid h1;have H2:=hid h2;clear h1 h2;go_enter Tryz.func40,Tryz.ntmps40;go_wp2_with fail;have B0:=ai (af w (.cells #[uV lo,uV hi] 33)) (.cells #[fV 0,fV 0] 67);have B1:=af (w.alloc (.cells #[uV lo,uV hi] 33)) (.cells #[fV 0,fV 0] 67)
 have hW:Below w.heap.size w ((w.alloc (.cells #[uV lo,uV hi] 33)).alloc (.cells #[fV 0,fV 0] 67)):=
  aJ.alloc (by simp) _
 simp only[World.size_alloc] at B1;generalize((w.alloc (.cells #[uV lo,uV hi] 33)).alloc (.cells #[fV 0,fV 0] 67))=W2 at*;obtain⟨k00,k01,-,-⟩:=aj B0;have HB0:=hid B0;have HB1:=hid B1;have HW:=hid hW;have HS2:=hid (hS.below hW ae);have hz:=(Array.getElem?_eq_some_iff.1 B1).1;clear B0 B1 hW hS;generalize hmk:makeN lo hi=r at*;have HMK:=hid hmk;clear hmk;obtain⟨rl,rh,rk⟩:=r
 have hrk:Hid (rk≤2):=by
  show rk≤2
  have:=HMK.out;unfold makeN at this;split at this
  ·simp at this;omega
  ·split at this<;>simp at this<;>omega
 go_region_held3 (fun W=>W.cell? ⟨w.heap.size,0,none⟩=some (.int .u64 (lo:Int))∧W.cell? ⟨w.heap.size,1,none⟩=some (.int .u64 (hi:Int))) (first|(go_keep;done)|(refine⟨?_,?_⟩<;>first|(go_keep;done)|(rw[aS (by omega),aS (by omega)];assumption)))
  (first
    |(go_at_call_of 56 (Value.int IntKind.u64 (lo:Int));refine(ka lo _).mono ?_;rintro e w3 ⟨rfl,rfl⟩)
    |(go_at_call_of 56 (Value.int IntKind.u64 (hi:Int));refine(ka hi _).mono ?_;rintro e w3 ⟨rfl,rfl⟩)
    |(go_at_call 55;refine(iT A lo hi _ H1.out H2.out ?_).mono ?_;exact HS2.out.below (aK.drew) ae;rintro e w4 ⟨rfl,hb4⟩;rw[HMK.out];dsimp only;have HB5:Hid (Below W2.heap.size W2 w4):=(Below.refl _ W2).drew.trans (hb4.mono ae);obtain⟨k00,k01,-,-⟩:=aj (aa HB0.out HB5.out);clear hb4)
    |(go_at_call 55;refine(iT A lo hi _ H1.out H2.out ?_).mono ?_;exact HS2.out.below (aJ.drew) ae;rintro e w4 ⟨rfl,hb4⟩;rw[HMK.out];dsimp only;have HB5:Hid (Below W2.heap.size W2 w4):=(((Below.refl _ W2).alloc ae _).drew).trans (hb4.mono (by simp));obtain⟨k00,k01,-,-⟩:=aj (aa HB0.out HB5.out);have HQ:Hid (w4.heap[W2.heap.size]?=some (.cells #[fV 0,fV 0] 67 (0,0))):=aa (show(World.drew (W2.alloc _)).heap[W2.heap.size]?=_ from af W2 _) hb4;obtain⟨kq0,kq1,kq2,kq3⟩:=aj HQ.out;clear hb4))
 all_goals
  first
  |(have hbw:=(HB5.out.setCell (p:=⟨W2.heap.size,0,none⟩) ae (fV rl)).setCell (p:=⟨W2.heap.size,1,none⟩) ae (fV rh)
    have B5:=aA (a:=fV rl) (b:=fV rh) HQ.out;clear HQ kq0 kq1 kq2 kq3 k00 k01;generalize(w4.setCell {block:=W2.heap.size,off:=0} (Value.float FloatKind.f64 rl)).setCell {block:=W2.heap.size,off:=1} (Value.float FloatKind.f64 rh)=W5 at*)
  |(have hbw:=HB5.out.alloc HB5.out.size (.cells #[fV rl,fV rh] 67)
    have B5:=af w4 (.cells #[fV rl,fV rh] 67);clear k00 k01;generalize(w4.alloc (.cells #[fV rl,fV rh] 67))=W5 at*)
 all_goals
  have hS5:=HS2.out.below hbw ae;have B6:=aa HB1.out hbw;have hb6:=HW.out.trans (hbw.mono HW.out.size);have HB6:=hid B6;have HB7:=hid B5;have Hb6:=hid hb6;have HS5:=hid hS5;clear hbw B5 B6 hb6 hS5 HB0 HB1 HW HS2 HB5;obtain⟨kg0,kg1,-,-⟩:=aj HB7.out;obtain⟨k0,k1,k2,k3⟩:=aj HB6.out;go_wp2_with fail;refine bodyPost_ret (v:=gF rl rh) (by simp[results,Tryz.results40,go_sem,k0,k1]) rfl ?_;refine⟨by rw[HMK.out],?_⟩;exact(Hb6.out.setCell (by simp) _).setCell (by simp) _
end
section
open Go.RowKit Go.Extern Ieee
attribute [local go_sem] av
def io (A:Nat→Addr) (k:Int) (al ah bl bh:Nat) (r1 r2 r3:Nat) (rs:ByteArray):Prop:=
 (k=0∧r3=0∧rs=⟨#[]⟩∧∀w,aw 41 #[gF al ah] w (gF r1 r2))∨
 (k=1∧r3=0∧rs=⟨#[]⟩∧∀w,aw 42 #[gF al ah,gF bl bh] w (gF r1 r2))∨
 (k=2∧∀w,aE A w→ax 43 #[gF al ah,gF bl bh] w fun ev w'=>OpR A w r1 r2 r3 rs ev w')∨
 (k=3∧∀w,aE A w→ax 44 #[gF al ah,gF bl bh] w fun ev w'=>OpR A w r1 r2 r3 rs ev w')∨
 (k=4∧∀w,aE A w→ax 45 #[gF al ah,gF bl bh] w fun ev w'=>OpR A w r1 r2 r3 rs ev w')∨
 (k=5∧∀w,aE A w→ax 46 #[gF al ah,gF bl bh] w fun ev w'=>OpR A w r1 r2 r3 rs ev w')∨
 (k=6∧∀w,aE A w→ax 47 #[gF al ah,gF bl bh] w fun ev w'=>OpR A w r1 r2 r3 rs ev w')∨
 (k=7∧∀w,aE A w→ax 48 #[gF al ah] w fun ev w'=>OpR A w r1 r2 r3 rs ev w')∨
 (k≠0∧k≠1∧k≠2∧k≠3∧k≠4∧k≠5∧k≠6∧k≠7∧r1=al∧r2=ah∧r3=0∧rs=⟨#[]⟩)
structure PSt (w W:World) (g2 n0:Nat) (a b c d:Value):Prop where
 k0:W.heap[w.heap.size]?=some (.cells #[a,b] 33 (0,0))
 k1:W.heap[w.heap.size+1]?=some (.cells #[c,d] 33 (0,0))
 k2:W.heap[g2]?=some (.cells #[uV 0,uV 0] 33 (0,0))
 hb:Below w.heap.size w W
 sz:n0≤W.heap.size
 h0:w.heap.size<n0
 h1:w.heap.size+1<n0
 h2:g2<n0
 l2:w.heap.size≤g2
theorem PSt.below {w W W':World} {g2 n0:Nat} {a b c d:Value} (m:PSt w W g2 n0 a b c d) (hb:Below W.heap.size W W'):PSt w W' g2 n0 a b c d:=
 ⟨aa m.k0 hb,aa m.k1 hb,aa m.k2 hb,m.hb.trans (hb.mono m.hb.size),Nat.le_trans m.sz hb.size,m.h0,m.h1,m.h2,m.l2⟩
theorem PSt.alloc {w W:World} {g2 n0:Nat} {a b c d:Value} (m:PSt w W g2 n0 a b c d) (o:Obj):PSt w (W.alloc o) g2 n0 a b c d:=m.below (aK.alloc ae o)
theorem PSt.drew {w W:World} {g2 n0:Nat} {a b c d:Value} (m:PSt w W g2 n0 a b c d):PSt w W.drew g2 n0 a b c d:=⟨m.k0,m.k1,m.k2,m.hb.drew,m.sz,m.h0,m.h1,m.h2,m.l2⟩
theorem PSt.cells {w W:World} {g2 n0:Nat} {a b c d:Value} (m:PSt w W g2 n0 a b c d):W.cell? ⟨w.heap.size,0,none⟩=some a∧W.cell? ⟨w.heap.size,1,none⟩=some b∧W.cell? ⟨w.heap.size+1,0,none⟩=some c∧W.cell? ⟨w.heap.size+1,1,none⟩=some d:=by
 obtain⟨x0,x1,-,-⟩:=aj m.k0;obtain⟨y0,y1,-,-⟩:=aj m.k1;exact⟨x0,x1,y0,y1⟩
theorem PSt.set2 {w W:World} {g2 n0 g:Nat} {a b c d:Value} (m:PSt w W g2 n0 a b c d) (h:n0≤g) (x y:Value):PSt w ((W.setCell ⟨g,0,none⟩ x).setCell ⟨g,1,none⟩ y) g2 n0 a b c d:=by
 have e0:w.heap.size≠g:=by have:=m.h0;omega
 have e1:w.heap.size+1≠g:=by have:=m.h1;omega
 have e2:g2≠g:=by have:=m.h2;omega
 have e3:w.heap.size≤g:=by have:=m.h0;omega
 exact⟨aG (aG m.k0 e0) e0,aG (aG m.k1 e1) e1,aG (aG m.k2 e2) e2,(m.hb.setCell (by exact e3) _).setCell (by exact e3) _,by simp only[World.size_setCell];exact m.sz,m.h0,m.h1,m.h2,m.l2⟩
def a9 (n0:Nat) (W:World) (g x y:Nat):Prop:=W.heap[g]?=some (.cells #[fV x,fV y] 67 (0,0))∧n0≤g
theorem a9.below {n0 g x y:Nat} {W W':World} (h:a9 n0 W g x y) (hb:Below W.heap.size W W'):a9 n0 W' g x y:=⟨aa h.1 hb,h.2⟩
theorem a9.alloc {n0 g x y:Nat} {W:World} (h:a9 n0 W g x y) (o:Obj):a9 n0 (W.alloc o) g x y:=⟨ai h.1 o,h.2⟩
theorem a9.new {n0 x y:Nat} {W:World} (h:n0≤W.heap.size):a9 n0 (W.alloc (.cells #[fV x,fV y] 67)) W.heap.size x y:=⟨af W _,h⟩
theorem a9.newSet {n0 g x y:Nat} {W:World} {u v:Value} (h:n0≤W.heap.size):a9 n0 (((W.setCell ⟨g,0,none⟩ u).setCell ⟨g,1,none⟩ v).alloc (.cells #[fV x,fV y] 67)) W.heap.size x y:=by
 have hz:a9 n0 (((W.setCell ⟨g,0,none⟩ u).setCell ⟨g,1,none⟩ v).alloc (.cells #[fV x,fV y] 67)) _ x y:=a9.new (by simp only[World.size_setCell];exact h);simp only[World.size_setCell] at hz;exact hz
theorem a9.drew {n0 g x y:Nat} {W:World} (h:a9 n0 W g x y):a9 n0 W.drew g x y:=h
theorem a9.le {n0 g x y:Nat} {W:World} (h:a9 n0 W g x y):n0≤g:=h.2
theorem a9.same {n0 g x' y':Nat} {W:World} (h:a9 n0 W g x' y') (x y:Nat):a9 n0 ((W.setCell ⟨g,0,none⟩ (fV x)).setCell ⟨g,1,none⟩ (fV y)) g x y:=⟨aA h.1,h.2⟩
theorem a9.ne {n0 g g' x y:Nat} {W:World} (h:a9 n0 W g x y) (hne:g≠g') (u v:Value):a9 n0 ((W.setCell ⟨g',0,none⟩ u).setCell ⟨g',1,none⟩ v) g x y:=⟨aG (aG h.1 hne) hne,h.2⟩
theorem yB (A:Nat→Addr) (k:Int) (xl xh yl yh al ah bl bh r1 r2 r3:Nat) (rs:ByteArray) (w:World) (hS:aE A w)
  (hx:∀w,aE A w→aw 40 #[gU xl xh] w (gF al ah))
  (hy:∀w,aE A w→aw 40 #[gU yl yh] w (gF bl bh))
  (h:io A k al ah bl bh r1 r2 r3 rs):
  aw 21 #[iV k,gU xl xh,gU yl yh] w (.tuple #[gU r1 r2,iV (r3:Int),.string rs]):=by
 have HX:=hid (fun(W:World) (hb:Below w.heap.size w W)=>hx W (hS.below hb ae));have HY:=hid (fun(W:World) (hb:Below w.heap.size w W)=>hy W (hS.below hb ae));have HS:=hid hS;have HC:=hid h;have HBX:=hid (fun(W:World)=>gR r1 r2 W);have HCD:=hid (fun(W:World) (v:Value) (hb:Below w.heap.size w W) (he:aR A W v r3 rs)=>jK A v r3 rs W (hS.below hb ae) he);clear hx hy hS h;go_enter Tryz.func21,Tryz.ntmps21;go_wp2_with fail
 have m0:Hid (PSt w (((w.alloc (.cells #[nV xl,nV xh] 33)).alloc (.cells #[nV yl,nV yh] 33)).alloc (.cells #[uV 0,uV 0] 33)) (w.heap.size+1+1) (w.heap.size+1+1+1) (nV xl) (nV xh) (nV yl) (nV yh)):=by
  have B0:=ai (ai (af w (.cells #[nV xl,nV xh] 33)) (.cells #[nV yl,nV yh] 33)) (.cells #[uV 0,uV 0] 33);have B1:=ai (af (w.alloc (.cells #[nV xl,nV xh] 33)) (.cells #[nV yl,nV yh] 33)) (.cells #[uV 0,uV 0] 33);have B2:=af ((w.alloc (.cells #[nV xl,nV xh] 33)).alloc (.cells #[nV yl,nV yh] 33)) (.cells #[uV 0,uV 0] 33);simp only[World.size_alloc] at B1 B2;exact⟨B0,B1,B2,(aJ.alloc (by simp) _).alloc (by simp;omega) _,by simp,by omega,by omega,by omega,by omega⟩
 generalize(((w.alloc (.cells #[nV xl,nV xh] 33)).alloc (.cells #[nV yl,nV yh] 33)).alloc (.cells #[uV 0,uV 0] 33))=W2 at*;generalize hn0:w.heap.size+1+1+1=n0 at*;generalize hg2:w.heap.size+1+1=g2 at*
 go_cut [9,10] (fun s9 s10 wc=>∃ga gb,s9= .pointer (some ⟨ga,0,none⟩)∧s10= .pointer (some ⟨gb,0,none⟩)∧PSt w wc g2 n0 (nV xl) (nV xh) (nV yl) (nV yh)∧a9 n0 wc ga al ah∧a9 n0 wc gb bl bh)
 case first=>
  clear hn0 hg2;have iN:=hid m0.out.drew
  go_region_held3 (fun W=>W.cell? ⟨w.heap.size,0,none⟩=some (.int .u64 (xl:Int))∧W.cell? ⟨w.heap.size,1,none⟩=some (.int .u64 (xh:Int))∧W.cell? ⟨w.heap.size+1,0,none⟩=some (.int .u64 (yl:Int))∧W.cell? ⟨w.heap.size+1,1,none⟩=some (.int .u64 (yh:Int))) (first|with_reducible exact iN.out.cells|with_reducible exact(m0.out.alloc _).drew.cells|with_reducible exact((m0.out.alloc _).alloc _).drew.cells|with_reducible exact(iN.out.alloc _).cells|with_reducible exact((iN.out.alloc _).alloc _).cells|with_reducible exact(iN.out.set2 (by first|exact y0.out.le|exact y1.out.le|exact z0.out.le|exact z1.out.le) _ _).cells|with_reducible exact((iN.out.set2 (by first|exact y0.out.le|exact y1.out.le|exact z0.out.le|exact z1.out.le) _ _).alloc _).cells|with_reducible exact(((iN.out.set2 (by first|exact y0.out.le|exact y1.out.le|exact z0.out.le|exact z1.out.le) _ _).alloc _).alloc _).cells|with_reducible exact((iN.out.set2 (by first|exact y0.out.le|exact y1.out.le|exact z0.out.le|exact z1.out.le) _ _).set2 (by first|exact y0.out.le|exact y1.out.le|exact z0.out.le|exact z1.out.le) _ _).cells|with_reducible exact(((iN.out.set2 (by first|exact y0.out.le|exact y1.out.le|exact z0.out.le|exact z1.out.le) _ _).set2 (by first|exact y0.out.le|exact y1.out.le|exact z0.out.le|exact z1.out.le) _ _).alloc _).cells|with_reducible exact((((iN.out.set2 (by first|exact y0.out.le|exact y1.out.le|exact z0.out.le|exact z1.out.le) _ _).set2 (by first|exact y0.out.le|exact y1.out.le|exact z0.out.le|exact z1.out.le) _ _).alloc _).alloc _).cells)
   (first
     |(go_at_call 40;with_reducible (refine (HX.out _ ?_).mono ?_);(with_reducible exact iN.out.hb);rintro e v1 ⟨rfl,hbk⟩
       have iN:=hid (iN.out.below hbk);clear hbk)
     |(go_at_call 40;with_reducible (refine (HX.out _ ?_).mono ?_);(with_reducible exact(m0.out.alloc _).drew.hb);rintro e v1 ⟨rfl,hbk⟩
       have y0:=hid ((a9.new m0.out.sz).drew.below hbk);have iN:=hid ((m0.out.alloc _).drew.below hbk);clear hbk;have ly0:=ag y0.out.1)
     |(go_at_call 40;with_reducible (refine (HX.out _ ?_).mono ?_);(with_reducible exact((m0.out.alloc _).alloc _).drew.hb);rintro e v1 ⟨rfl,hbk⟩
       have y0:=hid (((a9.new m0.out.sz).alloc _).drew.below hbk)
       have y1:Hid (a9 n0 v1 (W2.heap.size+1) 0 0):=by
        have hz:=(a9.new (x:=0) (y:=0) (m0.out.alloc (.cells #[fV 0,fV 0] 67)).sz).drew.below hbk;simp only[World.size_alloc] at hz;exact hz
       have iN:=hid (((m0.out.alloc _).alloc _).drew.below hbk);clear hbk;have ly0:=ag y0.out.1;have ly1:=ag y1.out.1)
     |(go_at_call 40;with_reducible (refine (HY.out _ ?_).mono ?_);(with_reducible exact iN.out.hb);rintro e v2 ⟨rfl,hbk⟩
       try(have y0:Hid (a9 n0 v2 W2.heap.size 0 0):=y0.out.below hbk)
       try(have y1:Hid (a9 n0 v2 (W2.heap.size+1) 0 0):=y1.out.below hbk)
       have iN:=hid (iN.out.below hbk);clear hbk
       try(obtain⟨a0,a1,a2,a3⟩:=aj y0.out.1;have ay:=ag y0.out.1)
       try(obtain⟨b0,b1,b2,b3⟩:=aj y1.out.1;have by_:=ag y1.out.1)
       try(obtain⟨c0,c1,c2,c3⟩:=aj z0.out.1;have cy:=ag z0.out.1)
       try(obtain⟨d0,d1,d2,d3⟩:=aj z1.out.1;have dy:=ag z1.out.1))
     |(go_at_call 40;with_reducible (refine (HY.out _ ?_).mono ?_);(with_reducible exact(iN.out.alloc _).hb);rintro e v2 ⟨rfl,hbk⟩
       try(have y0:Hid (a9 n0 v2 W2.heap.size 0 0):=(y0.out.alloc _).below hbk)
       try(have y1:Hid (a9 n0 v2 (W2.heap.size+1) 0 0):=(y1.out.alloc _).below hbk)
       have z0:=hid ((a9.new iN.out.sz).below hbk);have iN:=hid ((iN.out.alloc _).below hbk);clear hbk
       try(obtain⟨a0,a1,a2,a3⟩:=aj y0.out.1;have ay:=ag y0.out.1)
       try(obtain⟨b0,b1,b2,b3⟩:=aj y1.out.1;have by_:=ag y1.out.1)
       try(obtain⟨c0,c1,c2,c3⟩:=aj z0.out.1;have cy:=ag z0.out.1)
       try(obtain⟨d0,d1,d2,d3⟩:=aj z1.out.1;have dy:=ag z1.out.1))
     |(go_at_call 40;with_reducible (refine (HY.out _ ?_).mono ?_);(with_reducible exact((iN.out.alloc _).alloc _).hb);rintro e v2 ⟨rfl,hbk⟩
       try(have y0:Hid (a9 n0 v2 W2.heap.size 0 0):=((y0.out.alloc _).alloc _).below hbk)
       try(have y1:Hid (a9 n0 v2 (W2.heap.size+1) 0 0):=((y1.out.alloc _).alloc _).below hbk)
       have z0:=hid (((a9.new iN.out.sz).alloc _).below hbk)
       have z1:Hid (a9 n0 v2 (v1.heap.size+1) 0 0):=by
        have hz:=(a9.new (x:=0) (y:=0) (iN.out.alloc (.cells #[fV 0,fV 0] 67)).sz).below hbk;simp only[World.size_alloc] at hz;exact hz
       have iN:=hid (((iN.out.alloc _).alloc _).below hbk);clear hbk
       try(obtain⟨a0,a1,a2,a3⟩:=aj y0.out.1;have ay:=ag y0.out.1)
       try(obtain⟨b0,b1,b2,b3⟩:=aj y1.out.1;have by_:=ag y1.out.1)
       try(obtain⟨c0,c1,c2,c3⟩:=aj z0.out.1;have cy:=ag z0.out.1)
       try(obtain⟨d0,d1,d2,d3⟩:=aj z1.out.1;have dy:=ag z1.out.1)))
  all_goals(go_wp2_with fail;go_meet;refine⟨_,_,rfl,rfl,?_,?_,?_⟩)
  all_goals first|(first|with_reducible exact iN.out|with_reducible exact(iN.out.alloc _)|with_reducible exact((iN.out.alloc _).alloc _)|with_reducible exact(iN.out.set2 (by first|exact y0.out.le|exact y1.out.le|exact z0.out.le|exact z1.out.le) _ _)|with_reducible exact((iN.out.set2 (by first|exact y0.out.le|exact y1.out.le|exact z0.out.le|exact z1.out.le) _ _).alloc _)|with_reducible exact(((iN.out.set2 (by first|exact y0.out.le|exact y1.out.le|exact z0.out.le|exact z1.out.le) _ _).alloc _).alloc _)|with_reducible exact((iN.out.set2 (by first|exact y0.out.le|exact y1.out.le|exact z0.out.le|exact z1.out.le) _ _).set2 (by first|exact y0.out.le|exact y1.out.le|exact z0.out.le|exact z1.out.le) _ _)|with_reducible exact(((iN.out.set2 (by first|exact y0.out.le|exact y1.out.le|exact z0.out.le|exact z1.out.le) _ _).set2 (by first|exact y0.out.le|exact y1.out.le|exact z0.out.le|exact z1.out.le) _ _).alloc _)|with_reducible exact((((iN.out.set2 (by first|exact y0.out.le|exact y1.out.le|exact z0.out.le|exact z1.out.le) _ _).set2 (by first|exact y0.out.le|exact y1.out.le|exact z0.out.le|exact z1.out.le) _ _).alloc _).alloc _))|(first|with_reducible exact(y0.out.same _ _)|with_reducible exact((y0.out.same _ _).alloc _)|with_reducible exact(((y0.out.same _ _).alloc _).alloc _)|with_reducible exact((y0.out.same _ _).ne (by omega) _ _)|with_reducible exact(((y0.out.same _ _).ne (by omega) _ _).alloc _)|with_reducible exact((((y0.out.same _ _).ne (by omega) _ _).alloc _).alloc _)|with_reducible exact((y0.out.ne (by omega) _ _).same _ _)|with_reducible exact(((y0.out.ne (by omega) _ _).same _ _).alloc _)|with_reducible exact((((y0.out.ne (by omega) _ _).same _ _).alloc _).alloc _)|with_reducible exact(y1.out.same _ _)|with_reducible exact((y1.out.same _ _).alloc _)|with_reducible exact(((y1.out.same _ _).alloc _).alloc _)|with_reducible exact((y1.out.same _ _).ne (by omega) _ _)|with_reducible exact(((y1.out.same _ _).ne (by omega) _ _).alloc _)|with_reducible exact((((y1.out.same _ _).ne (by omega) _ _).alloc _).alloc _)|with_reducible exact((y1.out.ne (by omega) _ _).same _ _)|with_reducible exact(((y1.out.ne (by omega) _ _).same _ _).alloc _)|with_reducible exact((((y1.out.ne (by omega) _ _).same _ _).alloc _).alloc _)|with_reducible exact(z0.out.same _ _)|with_reducible exact((z0.out.same _ _).alloc _)|with_reducible exact(((z0.out.same _ _).alloc _).alloc _)|with_reducible exact((z0.out.same _ _).ne (by omega) _ _)|with_reducible exact(((z0.out.same _ _).ne (by omega) _ _).alloc _)|with_reducible exact((((z0.out.same _ _).ne (by omega) _ _).alloc _).alloc _)|with_reducible exact((z0.out.ne (by omega) _ _).same _ _)|with_reducible exact(((z0.out.ne (by omega) _ _).same _ _).alloc _)|with_reducible exact((((z0.out.ne (by omega) _ _).same _ _).alloc _).alloc _)|with_reducible exact(z1.out.same _ _)|with_reducible exact((z1.out.same _ _).alloc _)|with_reducible exact(((z1.out.same _ _).alloc _).alloc _)|with_reducible exact((z1.out.same _ _).ne (by omega) _ _)|with_reducible exact(((z1.out.same _ _).ne (by omega) _ _).alloc _)|with_reducible exact((((z1.out.same _ _).ne (by omega) _ _).alloc _).alloc _)|with_reducible exact((z1.out.ne (by omega) _ _).same _ _)|with_reducible exact(((z1.out.ne (by omega) _ _).same _ _).alloc _)|with_reducible exact((((z1.out.ne (by omega) _ _).same _ _).alloc _).alloc _)|with_reducible exact a9.new iN.out.sz|with_reducible exact a9.newSet iN.out.sz|with_reducible exact(a9.new iN.out.sz).alloc _|with_reducible exact a9.new (iN.out.set2 (by first|exact y0.out.le|exact y1.out.le|exact z0.out.le|exact z1.out.le) _ _).sz|with_reducible exact(a9.new (iN.out.set2 (by first|exact y0.out.le|exact y1.out.le|exact z0.out.le|exact z1.out.le) _ _).sz).alloc _|with_reducible exact a9.new ((iN.out.set2 (by first|exact y0.out.le|exact y1.out.le|exact z0.out.le|exact z1.out.le) _ _).set2 (by first|exact y0.out.le|exact y1.out.le|exact z0.out.le|exact z1.out.le) _ _).sz|with_reducible exact(a9.new ((iN.out.set2 (by first|exact y0.out.le|exact y1.out.le|exact z0.out.le|exact z1.out.le) _ _).set2 (by first|exact y0.out.le|exact y1.out.le|exact z0.out.le|exact z1.out.le) _ _).sz).alloc _|(have hz:a9 n0 ((v2.alloc (.cells #[fV bl,fV bh] 67)).alloc (.cells #[fV al,fV ah] 67)) _ _ _:=a9.new (iN.out.alloc _).sz;simp only[World.size_alloc] at hz;exact hz)|(have hz:a9 n0 ((v2.alloc (.cells #[fV al,fV ah] 67)).alloc (.cells #[fV bl,fV bh] 67)) _ _ _:=a9.new (iN.out.alloc _).sz;simp only[World.size_alloc] at hz;exact hz))
 case rest=>
  clear HX HY hn0 hg2 m0;obtain⟨ga,gb,rfl,rfl,hP,hA,hB⟩:=hcut;have MP:=hid hP;obtain⟨a0,a1,-,-⟩:=aj hA.1;obtain⟨b0,b1,-,-⟩:=aj hB.1;have la:=ag hA.1;have lb:=ag hB.1;have HC':=HC.out;clear hP hA hB HC;rcases HC' with⟨hk,e3,es,h⟩|⟨hk,e3,es,h⟩|⟨hk,h⟩|⟨hk,h⟩|⟨hk,h⟩|⟨hk,h⟩|⟨hk,h⟩|⟨hk,h⟩|⟨h0,h1,h2,h3,h4,h5,h6,h7,e1,e2,e3,es⟩
  iterate 2
   ·subst hk e3 es;have H:=hid h;clear h;go_wp2_with fail;refine (H.out _).mono ?_;rintro e w5 ⟨rfl,hb5⟩;have IC:=hid ((a9.new MP.out.sz).below hb5);have MP5:=hid ((MP.out.alloc _).below hb5);clear hb5 a0 a1 b0 b1 la lb H;obtain⟨c0,c1,c2,c3⟩:=aj IC.out.1;go_wp2_with fail;have IC6:Hid (a9 n0 ((w5.setCell ⟨wc.heap.size,0,none⟩ (fV r1)).setCell ⟨wc.heap.size,1,none⟩ (fV r2)) wc.heap.size r1 r2):=IC.out.same _ _;have MP6:Hid (PSt w ((w5.setCell ⟨wc.heap.size,0,none⟩ (fV r1)).setCell ⟨wc.heap.size,1,none⟩ (fV r2)) g2 n0 _ _ _ _):=MP5.out.set2 IC.out.le _ _;refine (HCD.out _ _ MP6.out.hb .nil).mono ?_;rintro e w7 ⟨rfl,hb7⟩;clear IC MP5 c0 c1 c2 c3;have IC7:=hid (IC6.out.below hb7);have MP7:=hid (MP6.out.below hb7);clear hb7 IC6 MP6;obtain⟨c0,c1,-,-⟩:=aj IC7.out.1;go_wp2_with fail;refine (HBX.out _).mono ?_;rintro e w8 ⟨rfl,hb8⟩;have MP8:=hid (MP7.out.below hb8);clear hb8 MP7 IC7 c0 c1;obtain⟨d0,d1,d2,d3⟩:=aj MP8.out.k2;go_wp2_with fail;obtain⟨p0,p1,-,-⟩:=aj (aA (a:=nV r1) (b:=nV r2) MP8.out.k2);refine bodyPost_ret (v:= .tuple #[gU r1 r2,iV (0),.string ⟨#[]⟩]) (by simp[results,Tryz.results21,go_sem,p0,p1]) rfl ?_;exact⟨rfl,(MP8.out.hb.setCell (by exact MP8.out.l2) _).setCell (by exact MP8.out.l2) _⟩
  iterate 6
   ·subst hk;have H:=hid (fun W (hb:Below w.heap.size w W)=>h W (HS.out.below hb ae));clear h;go_wp2_with fail;refine (H.out _ (MP.out.alloc _).hb).mono ?_;rintro e w5 ⟨v,rfl,hE,hb5⟩;have IC:=hid ((a9.new MP.out.sz).below hb5);have MP5:=hid ((MP.out.alloc _).below hb5);have HE:=hid hE;clear hb5 a0 a1 b0 b1 la lb H hE;obtain⟨c0,c1,c2,c3⟩:=aj IC.out.1;go_wp2_with fail;have IC6:Hid (a9 n0 ((w5.setCell ⟨wc.heap.size,0,none⟩ (fV r1)).setCell ⟨wc.heap.size,1,none⟩ (fV r2)) wc.heap.size r1 r2):=IC.out.same _ _;have MP6:Hid (PSt w ((w5.setCell ⟨wc.heap.size,0,none⟩ (fV r1)).setCell ⟨wc.heap.size,1,none⟩ (fV r2)) g2 n0 _ _ _ _):=MP5.out.set2 IC.out.le _ _;have hBX:=aZ.of IC.out.1;refine (HCD.out _ _ MP6.out.hb ((HE.out.set hBX (by decide)).set hBX.set (by decide))).mono ?_;rintro e w7 ⟨rfl,hb7⟩;clear IC MP5 c0 c1 c2 c3 HE hBX;have IC7:=hid (IC6.out.below hb7);have MP7:=hid (MP6.out.below hb7);clear hb7 IC6 MP6;obtain⟨c0,c1,-,-⟩:=aj IC7.out.1;go_wp2_with fail;refine (HBX.out _).mono ?_;rintro e w8 ⟨rfl,hb8⟩;have MP8:=hid (MP7.out.below hb8);clear hb8 MP7 IC7 c0 c1;obtain⟨d0,d1,d2,d3⟩:=aj MP8.out.k2;go_wp2_with fail;obtain⟨p0,p1,-,-⟩:=aj (aA (a:=nV r1) (b:=nV r2) MP8.out.k2);refine bodyPost_ret (v:= .tuple #[gU r1 r2,iV ((r3:Int)),.string rs]) (by simp[results,Tryz.results21,go_sem,p0,p1]) rfl ?_;exact⟨rfl,(MP8.out.hb.setCell (by exact MP8.out.l2) _).setCell (by exact MP8.out.l2) _⟩
  ·subst e1 e2 e3 es;have IC6:Hid (a9 n0 (wc.alloc (.cells #[fV r1,fV r2] 67)) wc.heap.size r1 r2):=a9.new MP.out.sz;have MP6:=hid (MP.out.alloc (.cells #[fV r1,fV r2] 67));go_wp2_with fail;refine (HCD.out _ _ MP6.out.hb .nil).mono ?_;rintro e w7 ⟨rfl,hb7⟩;clear a0 a1 b0 b1 la lb;have IC7:=hid (IC6.out.below hb7);have MP7:=hid (MP6.out.below hb7);clear hb7 IC6 MP6;obtain⟨c0,c1,-,-⟩:=aj IC7.out.1;go_wp2_with fail;refine (HBX.out _).mono ?_;rintro e w8 ⟨rfl,hb8⟩;have MP8:=hid (MP7.out.below hb8);clear hb8 MP7 IC7 c0 c1;obtain⟨d0,d1,d2,d3⟩:=aj MP8.out.k2;go_wp2_with fail;obtain⟨p0,p1,-,-⟩:=aj (aA (a:=nV r1) (b:=nV r2) MP8.out.k2);refine bodyPost_ret (v:= .tuple #[gU r1 r2,iV (0),.string ⟨#[]⟩]) (by simp[results,Tryz.results21,go_sem,p0,p1]) rfl ?_;exact⟨rfl,(MP8.out.hb.setCell (by exact MP8.out.l2) _).setCell (by exact MP8.out.l2) _⟩
end
section
open Go.RowKit Go.Extern Ieee
attribute [local go_sem] av
def oh (x y z:Nat):Prop:=∀(w:World) (ts:Array TypeId) (t:TypeId),(Builtin.min_ ts t #[fV x,fV y]).run Tryz.prog w= .ok (fV z) w
def ov (x y z:Nat):Prop:=∀(w:World) (ts:Array TypeId) (t:TypeId),(Builtin.max_ ts t #[fV x,fV y]).run Tryz.prog w= .ok (fV z) w
theorem Fi (a b c d e f:Nat) (w:World):(Instr.index 180 (.agg #[fV a,fV b,fV c,fV d,fV e,fV f]) (iV 0)).run Tryz.prog w= .ok (gF a b) w:=by kernel_rfl
theorem EZ (a b c d e f:Nat) (w:World):(Instr.index 180 (.agg #[fV a,fV b,fV c,fV d,fV e,fV f]) (iV 1)).run Tryz.prog w= .ok (gF c d) w:=by kernel_rfl
theorem Fc (a b c d e f:Nat) (w:World):(Instr.index 180 (.agg #[fV a,fV b,fV c,fV d,fV e,fV f]) (iV 2)).run Tryz.prog w= .ok (gF e f) w:=by kernel_rfl
theorem qn (al ah bl bh d1 u1 d2 u2 d3 u3 d4 u4 l2 l3 lo g2 g3 hi:Nat) (w:World)
  (m1:oh d1 d2 l2) (m2:oh l2 d3 l3) (m3:oh l3 d4 lo) (x1:ov u1 u2 g2) (x2:ov g2 u3 g3) (x3:ov g3 u4 hi)
  (h1:bF 92 #[fV al,fV bl] d1 u1) (h2:bF 92 #[fV al,fV bh] d2 u2) (h3:bF 92 #[fV ah,fV bl] d3 u3) (h4:bF 92 #[fV ah,fV bh] d4 u4):
  aw 91 #[.func (.func 92) #[] #[],gF al ah,gF bl bh] w (.tuple #[fV lo,fV hi]):=by
 have H1:Hid (∀w,aw 92 #[fV al,fV bl] w (gF d1 u1)):=h1;have H2:Hid (∀w,aw 92 #[fV al,fV bh] w (gF d2 u2)):=h2;have H3:Hid (∀w,aw 92 #[fV ah,fV bl] w (gF d3 u3)):=h3;have H4:Hid (∀w,aw 92 #[fV ah,fV bh] w (gF d4 u4)):=h4;have f0:=oL;have f1:=oH;clear h1 h2 h3 h4;go_enter Tryz.func91,Tryz.ntmps91;go_wp2_with fail;have B0:=ai (af w (.cells #[fV al,fV ah] 67)) (.cells #[fV bl,fV bh] 67);have B1:=af (w.alloc (.cells #[fV al,fV ah] 67)) (.cells #[fV bl,fV bh] 67);have hW:Below w.heap.size w ((w.alloc (.cells #[fV al,fV ah] 67)).alloc (.cells #[fV bl,fV bh] 67)):=aJ.alloc (by simp) _;simp only[World.size_alloc] at B1;generalize((w.alloc (.cells #[fV al,fV ah] 67)).alloc (.cells #[fV bl,fV bh] 67))=W2 at*;refine (H1.out _).mono ?_;rintro e w3 ⟨rfl,hb3⟩;have C0:=ai (aa B0 hb3) (.cells #[fV d1,fV u1] 130);have C1:=ai (aa B1 hb3) (.cells #[fV d1,fV u1] 130);have hX:Below w.heap.size w ((w3.alloc (.cells #[fV d1,fV u1] 130)).drew):=((hW.trans (hb3.mono hW.size)).alloc (Nat.le_trans hW.size hb3.size) _).drew;clear B0 B1 hb3 hW H1;go_wp2_with fail;go_region;have HC0:Hid ((w3.alloc (.cells #[fV d1,fV u1] 130)).drew.heap[w.heap.size]?=_):=C0;have HC1:Hid ((w3.alloc (.cells #[fV d1,fV u1] 130)).drew.heap[w.heap.size+1]?=_):=C1;have HX:Hid (Below w.heap.size w (w3.alloc (.cells #[fV d1,fV u1] 130)).drew):=hX;clear C0 C1 hX;generalize(w3.alloc (.cells #[fV d1,fV u1] 130)).drew=W4 at*;obtain⟨a0,a1,-,-⟩:=aj HC0.out;obtain⟨b0,b1,-,-⟩:=aj HC1.out;go_wp2_with fail;have HD0:Hid (W4.drew.heap[w.heap.size]?=_):=HC0.out;have HD1:Hid (W4.drew.heap[w.heap.size+1]?=_):=HC1.out;have HY:Hid (Below w.heap.size w W4.drew):=HX.out.drew;clear HC0 HC1 HX
 go_region_held3 (fun W=>W.cell? ⟨w.heap.size,0,none⟩=some (.float .f64 al)∧W.cell? ⟨w.heap.size,1,none⟩=some (.float .f64 ah)∧W.cell? ⟨w.heap.size+1,0,none⟩=some (.float .f64 bl)∧W.cell? ⟨w.heap.size+1,1,none⟩=some (.float .f64 bh)) (first|(go_keep;done)|(refine⟨?_,?_,?_,?_⟩<;>first|(go_keep;done)|assumption))
  (first
    |(go_at_call 92;with_reducible (refine (H2.out _).mono ?_);rintro e w5 ⟨rfl,hb5⟩
      have HB5:Hid (Below _ _ w5):=hb5;obtain⟨a0,a1,-,-⟩:=aj (aa HD0.out hb5);obtain⟨b0,b1,-,-⟩:=aj (aa HD1.out hb5);clear hb5)
    |(go_at_call 92;with_reducible (refine (H3.out _).mono ?_);rintro e w6 ⟨rfl,hb6⟩
      have HB6:Hid (Below _ _ w6):=hb6;obtain⟨a0,a1,-,-⟩:=aj (aa (aa HD0.out HB5.out) hb6);obtain⟨b0,b1,-,-⟩:=aj (aa (aa HD1.out HB5.out) hb6);clear hb6)
    |(go_at_call 92;with_reducible (refine (H4.out _).mono ?_);rintro e w7 ⟨rfl,hb7⟩
      have HB7:Hid (Below _ _ w7):=hb7;obtain⟨a0,a1,-,-⟩:=aj (aa (aa (aa HD0.out HB5.out) HB6.out) hb7);obtain⟨b0,b1,-,-⟩:=aj (aa (aa (aa HD1.out HB5.out) HB6.out) hb7);clear hb7))
 have HZ:Hid (Below w.heap.size w w7):=((HY.out.trans (HB5.out.mono HY.out.size)).trans (HB6.out.mono (Nat.le_trans HY.out.size HB5.out.size))).trans (HB7.out.mono (Nat.le_trans (Nat.le_trans HY.out.size HB5.out.size) HB6.out.size));clear HB5 HB6 HB7 HY HD0 HD1 H2 H3 H4 a0 a1 b0 b1;have i0:=Fi d2 u2 d3 u3 d4 u4;have i1:=EZ d2 u2 d3 u3 d4 u4;have i2:=Fc d2 u2 d3 u3 d4 u4;unfold oh at m1 m2 m3;unfold ov at x1 x2 x3;go_wp2_with fail;refine wp_loop_rounds 4 ?_;rw[rounds_succ];go_wp2_with fail;go_region;go_wp2_with fail;rw[rounds_succ];go_wp2_with fail;go_region;go_wp2_with fail;rw[rounds_succ];go_wp2_with fail;go_region;go_wp2_with fail;rw[rounds_succ];go_wp2_with fail;have hZ8:Below w.heap.size w (((w7.alloc (.cells #[fV d2,fV u2] 130)).alloc (.cells #[fV d3,fV u3] 130)).alloc (.cells #[fV d4,fV u4] 130)).drew.drew.drew:=(((HZ.out.alloc HZ.out.size _).alloc (by have:=HZ.out.size;simp;omega) _).alloc (by have:=HZ.out.size;simp;omega) _).drew.drew.drew;refine bodyPost_ret (v:= .tuple #[fV lo,fV hi]) (by simp[results,Tryz.results91,go_sem]) rfl ?_;exact⟨rfl,hZ8⟩
end
section
open Go.RowKit Go.Extern Ieee
attribute [local go_sem] av
theorem pV (al ah bl bh d1 u1 d2 u2 d3 u3 d4 u4 l2 l3 lo g2 g3 hi:Nat) (w:World)
  (m1:oh d1 d2 l2) (m2:oh l2 d3 l3) (m3:oh l3 d4 lo) (x1:ov u1 u2 g2) (x2:ov g2 u3 g3) (x3:ov g3 u4 hi)
  (h1:bF 94 #[fV al,fV bl] d1 u1) (h2:bF 94 #[fV al,fV bh] d2 u2) (h3:bF 94 #[fV ah,fV bl] d3 u3) (h4:bF 94 #[fV ah,fV bh] d4 u4):
  aw 91 #[.func (.func 94) #[] #[],gF al ah,gF bl bh] w (.tuple #[fV lo,fV hi]):=by
 have H1:Hid (∀w,aw 94 #[fV al,fV bl] w (gF d1 u1)):=h1;have H2:Hid (∀w,aw 94 #[fV al,fV bh] w (gF d2 u2)):=h2;have H3:Hid (∀w,aw 94 #[fV ah,fV bl] w (gF d3 u3)):=h3;have H4:Hid (∀w,aw 94 #[fV ah,fV bh] w (gF d4 u4)):=h4;have f0:=oL;have f1:=oH;clear h1 h2 h3 h4;go_enter Tryz.func91,Tryz.ntmps91;go_wp2_with fail;have B0:=ai (af w (.cells #[fV al,fV ah] 67)) (.cells #[fV bl,fV bh] 67);have B1:=af (w.alloc (.cells #[fV al,fV ah] 67)) (.cells #[fV bl,fV bh] 67);have hW:Below w.heap.size w ((w.alloc (.cells #[fV al,fV ah] 67)).alloc (.cells #[fV bl,fV bh] 67)):=aJ.alloc (by simp) _;simp only[World.size_alloc] at B1;generalize((w.alloc (.cells #[fV al,fV ah] 67)).alloc (.cells #[fV bl,fV bh] 67))=W2 at*;refine (H1.out _).mono ?_;rintro e w3 ⟨rfl,hb3⟩;have C0:=ai (aa B0 hb3) (.cells #[fV d1,fV u1] 130);have C1:=ai (aa B1 hb3) (.cells #[fV d1,fV u1] 130);have hX:Below w.heap.size w ((w3.alloc (.cells #[fV d1,fV u1] 130)).drew):=((hW.trans (hb3.mono hW.size)).alloc (Nat.le_trans hW.size hb3.size) _).drew;clear B0 B1 hb3 hW H1;go_wp2_with fail;go_region;have HC0:Hid ((w3.alloc (.cells #[fV d1,fV u1] 130)).drew.heap[w.heap.size]?=_):=C0;have HC1:Hid ((w3.alloc (.cells #[fV d1,fV u1] 130)).drew.heap[w.heap.size+1]?=_):=C1;have HX:Hid (Below w.heap.size w (w3.alloc (.cells #[fV d1,fV u1] 130)).drew):=hX;clear C0 C1 hX;generalize(w3.alloc (.cells #[fV d1,fV u1] 130)).drew=W4 at*;obtain⟨a0,a1,-,-⟩:=aj HC0.out;obtain⟨b0,b1,-,-⟩:=aj HC1.out;go_wp2_with fail;have HD0:Hid (W4.drew.heap[w.heap.size]?=_):=HC0.out;have HD1:Hid (W4.drew.heap[w.heap.size+1]?=_):=HC1.out;have HY:Hid (Below w.heap.size w W4.drew):=HX.out.drew;clear HC0 HC1 HX
 go_region_held3 (fun W=>W.cell? ⟨w.heap.size,0,none⟩=some (.float .f64 al)∧W.cell? ⟨w.heap.size,1,none⟩=some (.float .f64 ah)∧W.cell? ⟨w.heap.size+1,0,none⟩=some (.float .f64 bl)∧W.cell? ⟨w.heap.size+1,1,none⟩=some (.float .f64 bh)) (first|(go_keep;done)|(refine⟨?_,?_,?_,?_⟩<;>first|(go_keep;done)|assumption))
  (first
    |(go_at_call 94;with_reducible (refine (H2.out _).mono ?_);rintro e w5 ⟨rfl,hb5⟩
      have HB5:Hid (Below _ _ w5):=hb5;obtain⟨a0,a1,-,-⟩:=aj (aa HD0.out hb5);obtain⟨b0,b1,-,-⟩:=aj (aa HD1.out hb5);clear hb5)
    |(go_at_call 94;with_reducible (refine (H3.out _).mono ?_);rintro e w6 ⟨rfl,hb6⟩
      have HB6:Hid (Below _ _ w6):=hb6;obtain⟨a0,a1,-,-⟩:=aj (aa (aa HD0.out HB5.out) hb6);obtain⟨b0,b1,-,-⟩:=aj (aa (aa HD1.out HB5.out) hb6);clear hb6)
    |(go_at_call 94;with_reducible (refine (H4.out _).mono ?_);rintro e w7 ⟨rfl,hb7⟩
      have HB7:Hid (Below _ _ w7):=hb7;obtain⟨a0,a1,-,-⟩:=aj (aa (aa (aa HD0.out HB5.out) HB6.out) hb7);obtain⟨b0,b1,-,-⟩:=aj (aa (aa (aa HD1.out HB5.out) HB6.out) hb7);clear hb7))
 have HZ:Hid (Below w.heap.size w w7):=((HY.out.trans (HB5.out.mono HY.out.size)).trans (HB6.out.mono (Nat.le_trans HY.out.size HB5.out.size))).trans (HB7.out.mono (Nat.le_trans (Nat.le_trans HY.out.size HB5.out.size) HB6.out.size));clear HB5 HB6 HB7 HY HD0 HD1 H2 H3 H4 a0 a1 b0 b1;have i0:=Fi d2 u2 d3 u3 d4 u4;have i1:=EZ d2 u2 d3 u3 d4 u4;have i2:=Fc d2 u2 d3 u3 d4 u4;unfold oh at m1 m2 m3;unfold ov at x1 x2 x3;go_wp2_with fail;refine wp_loop_rounds 4 ?_;rw[rounds_succ];go_wp2_with fail;go_region;go_wp2_with fail;rw[rounds_succ];go_wp2_with fail;go_region;go_wp2_with fail;rw[rounds_succ];go_wp2_with fail;go_region;go_wp2_with fail;rw[rounds_succ];go_wp2_with fail;have hZ8:Below w.heap.size w (((w7.alloc (.cells #[fV d2,fV u2] 130)).alloc (.cells #[fV d3,fV u3] 130)).alloc (.cells #[fV d4,fV u4] 130)).drew.drew.drew:=(((HZ.out.alloc HZ.out.size _).alloc (by have:=HZ.out.size;simp;omega) _).alloc (by have:=HZ.out.size;simp;omega) _).drew.drew.drew;refine bodyPost_ret (v:= .tuple #[fV lo,fV hi]) (by simp[results,Tryz.results91,go_sem]) rfl ?_;exact⟨rfl,hZ8⟩
end
section
open Go.RowKit Go.Extern Ieee
attribute [local go_sem] av
theorem aR.set2 {A:Nat→Addr} {w:World} {v:Value} {k:Nat} {s:ByteArray} {n0 g x y:Nat} {u u':Value} (h:aR A w v k s) (z:a9 n0 w g x y):aR A ((w.setCell ⟨g,0,none⟩ u).setCell ⟨g,1,none⟩ u') v k s:=
 (h.set (aZ.of z.1) (by decide)).set (aZ.of z.1).set (by decide)
theorem aR.alloc {A:Nat→Addr} {w:World} {v:Value} {k:Nat} {s:ByteArray} (h:aR A w v k s) (o:Obj):aR A (w.alloc o) v k s:=h.below (aK.alloc ae o)
theorem tv (A:Nat→Addr) (s:ByteArray) (xl xh yl yh al ah bl bh r1 r2 r3:Nat) (rs:ByteArray) (w:World) (hS:aE A w)
  (hx:∀w,aE A w→aw 40 #[gU xl xh] w (gF al ah))
  (hy:∀w,aE A w→aw 40 #[gU yl yh] w (gF bl bh))
  (h:∀w,aE A w→ax 71 #[.string s,gF al ah,gF bl bh] w fun ev w'=>OpR A w r1 r2 r3 rs ev w'):
  aw 30 #[.string s,gU xl xh,gU yl yh] w (.tuple #[gU r1 r2,iV (r3:Int),.string rs]):=by
 have HX:=hid (fun(W:World) (hb:Below w.heap.size w W)=>hx W (hS.below hb ae));have HY:=hid (fun(W:World) (hb:Below w.heap.size w W)=>hy W (hS.below hb ae));have HA:=hid (fun(W:World) (hb:Below w.heap.size w W)=>h W (hS.below hb ae));have HBX:=hid (fun(W:World)=>gR r1 r2 W);have HCD:=hid (fun(W:World) (v:Value) (hb:Below w.heap.size w W) (he:aR A W v r3 rs)=>jK A v r3 rs W (hS.below hb ae) he);clear hx hy hS h;go_enter Tryz.func30,Tryz.ntmps30;go_wp2_with fail
 have m0:Hid (PSt w (((w.alloc (.cells #[nV xl,nV xh] 33)).alloc (.cells #[nV yl,nV yh] 33)).alloc (.cells #[uV 0,uV 0] 33)) (w.heap.size+1+1) (w.heap.size+1+1+1) (nV xl) (nV xh) (nV yl) (nV yh)):=by
  have B0:=ai (ai (af w (.cells #[nV xl,nV xh] 33)) (.cells #[nV yl,nV yh] 33)) (.cells #[uV 0,uV 0] 33);have B1:=ai (af (w.alloc (.cells #[nV xl,nV xh] 33)) (.cells #[nV yl,nV yh] 33)) (.cells #[uV 0,uV 0] 33);have B2:=af ((w.alloc (.cells #[nV xl,nV xh] 33)).alloc (.cells #[nV yl,nV yh] 33)) (.cells #[uV 0,uV 0] 33);simp only[World.size_alloc] at B1 B2;exact⟨B0,B1,B2,(aJ.alloc (by simp) _).alloc (by simp;omega) _,by simp,by omega,by omega,by omega,by omega⟩
 generalize(((w.alloc (.cells #[nV xl,nV xh] 33)).alloc (.cells #[nV yl,nV yh] 33)).alloc (.cells #[uV 0,uV 0] 33))=W2 at*;generalize hn0:w.heap.size+1+1+1=n0 at*;generalize hg2:w.heap.size+1+1=g2 at*
 go_cut [9,10] (fun s9 s10 wc=>∃g,s9= .pointer (some ⟨g,0,none⟩)∧PSt w wc g2 n0 (nV xl) (nV xh) (nV yl) (nV yh)∧a9 n0 wc g r1 r2∧aR A wc s10 r3 rs)
 case first=>
  clear hn0 hg2;have iN:=hid m0.out.drew
  go_region_held3 (fun W=>W.cell? ⟨w.heap.size,0,none⟩=some (.int .u64 (xl:Int))∧W.cell? ⟨w.heap.size,1,none⟩=some (.int .u64 (xh:Int))∧W.cell? ⟨w.heap.size+1,0,none⟩=some (.int .u64 (yl:Int))∧W.cell? ⟨w.heap.size+1,1,none⟩=some (.int .u64 (yh:Int))) (first|with_reducible exact iN.out.cells|with_reducible exact(m0.out.alloc _).drew.cells|with_reducible exact(iN.out.alloc _).cells|with_reducible exact(iN.out.set2 zf.out.le _ _).cells)
   (first
     |(go_at_call 40;with_reducible (refine (HX.out _ ?_).mono ?_);(with_reducible exact iN.out.hb);rintro e v0 ⟨rfl,hbk⟩
       have iN:=hid (iN.out.below hbk);clear hbk)
     |(go_at_call 40;with_reducible (refine (HX.out _ ?_).mono ?_);(with_reducible exact(m0.out.alloc _).drew.hb);rintro e v0 ⟨rfl,hbk⟩
       have zf:=hid ((a9.new m0.out.sz).drew.below hbk);have iN:=hid ((m0.out.alloc _).drew.below hbk);clear hbk)
     |(go_at_call 40;with_reducible (refine (HY.out _ ?_).mono ?_);(with_reducible exact iN.out.hb);rintro e v1 ⟨rfl,hbk⟩
       try(have zf:Hid (a9 n0 v1 _ 0 0):=zf.out.below hbk)
       have iN:=hid (iN.out.below hbk);clear hbk)
     |(go_at_call 40;with_reducible (refine (HY.out _ ?_).mono ?_);(with_reducible exact(iN.out.alloc _).hb);rintro e v1 ⟨rfl,hbk⟩
       have zf:=hid ((a9.new iN.out.sz).below hbk);have iN:=hid ((iN.out.alloc _).below hbk);clear hbk)
     |(go_at_call 71;with_reducible (refine (HA.out _ ?_).mono ?_);(with_reducible exact iN.out.hb);(intro e v2 h);(unfold OpR at h);(obtain⟨v,rfl,hE,hbk⟩:=h)
       try(have zf:Hid (a9 n0 v2 _ 0 0):=zf.out.below hbk;obtain⟨zc0,zc1,zc2,zc3⟩:=aj zf.out.1)
       have HE:=hid hE;clear hE;have iN:=hid (iN.out.below hbk);clear hbk)
     |(go_at_call 71;with_reducible (refine (HA.out _ ?_).mono ?_);(with_reducible exact(iN.out.alloc _).hb);(intro e v2 h);(unfold OpR at h);(obtain⟨v,rfl,hE,hbk⟩:=h)
       have zf:=hid ((a9.new iN.out.sz).below hbk);obtain⟨zc0,zc1,zc2,zc3⟩:=aj zf.out.1;have HE:=hid hE;clear hE;have iN:=hid ((iN.out.alloc _).below hbk);clear hbk))
  all_goals(go_wp2_with fail;go_meet;refine⟨_,rfl,?_,?_,?_⟩)
  all_goals first|with_reducible exact iN.out.set2 zf.out.le _ _|with_reducible exact zf.out.same _ _|with_reducible exact HE.out.set2 zf.out|with_reducible exact iN.out.alloc _|with_reducible exact a9.new iN.out.sz|with_reducible exact HE.out.alloc _
 case rest=>
  clear HX HY HA hn0 hg2 m0;obtain⟨gc,rfl,hP,hI,hE⟩:=hcut;have MP:=hid hP;have IC:=hid hI;have HE:=hid hE;clear hP hI hE;go_wp2_with fail;refine (HCD.out _ _ MP.out.hb HE.out).mono ?_;rintro e w7 ⟨rfl,hb7⟩;have IC7:=hid (IC.out.below hb7);have MP7:=hid (MP.out.below hb7);clear hb7 IC MP HE;obtain⟨c0,c1,-,-⟩:=aj IC7.out.1;go_wp2_with fail;refine (HBX.out _).mono ?_;rintro e w8 ⟨rfl,hb8⟩;have MP8:=hid (MP7.out.below hb8);clear hb8 MP7 IC7 c0 c1;obtain⟨d0,d1,d2,d3⟩:=aj MP8.out.k2;go_wp2_with fail;obtain⟨p0,p1,-,-⟩:=aj (aA (a:=nV r1) (b:=nV r2) MP8.out.k2);refine bodyPost_ret (v:= .tuple #[gU r1 r2,iV (r3:Int),.string rs]) (by simp[results,Tryz.results30,go_sem,p0,p1]) rfl ?_;exact⟨rfl,(MP8.out.hb.setCell (by exact MP8.out.l2) _).setCell (by exact MP8.out.l2) _⟩
end
end Go.Proofs.YtonhpkigoplmaaaGreatDoor
