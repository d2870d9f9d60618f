import Derived.Test.YtkaipapdlnojiaaGreatWq29
set_option maxHeartbeats 40000000
set_option maxRecDepth 1000000
namespace Go.Proofs.YtkaipapdlnojiaaGreat
open Go.RowKit
theorem QY(W:World)(g:Nat)(a:Option Addr)(n cap k:Nat)(hC:Rdr W g a n cap k)(hn:n<=1048576)(hk:k<=1000):
 Cl 12 #[.pointer (some ⟨g,0,none⟩)] W λe w'=>∃(q:Nat) (v:Value) (E:List (Value×List Int)),e=.returned (.tuple #[.int .i64 q,v])/\2<=q/\q<=5/\0 < E.length/\E.length<=7/\CovL E q/\DrawnL W g a n cap (k+1000) q w' v E:=by
 obtain⟨i0,hi,i8,i9,j0⟩:=info_parts Tryz.infoInt;obtain⟨iS,U,d8,d9,e2⟩:=info_parts Tryz.infoRow;have KP:Hid (∀(w:World) (k m:Nat),Rdr w g a n cap k->k<=1000000000->m<=256->Cl 35 #[.pointer (some ⟨g,0,none⟩),.int .i64 m] w λe w'=>∃z:Nat,e=.returned (.int .i64 z)/\(z < m∨z=0)/\Rdr w' g a n cap (k+1)/\Kc g w w'):=hid (λw k m h h1 h2=>yA w g a n cap k m h hn h1 h2);have KD:Hid (∀(w:World) (k q most:Nat),Rdr w g a n cap k->k<=1000000->1<=q->q<=8->most<=20->Cl 36 #[.pointer (some ⟨g,0,none⟩),.int .i64 q,.int .i64 most] w λe w'=>∃(v:Value) (s:Nat->Bool),e=.returned v/\w'.ownsRow w.heap.size 3 1 v (plc s q).length ((plc s q).map (Value.int .i64))/\(∃j,j < q/\s j=true)/\Rdr w' g a n cap (k+30)/\Kc g w w'):=hid (λw k q most h h1 h2 h3 h4=>VH w g a n cap k q most h hn h1 h2 h3 h4)
 have l6:g < W.heap.size:=by
  obtain⟨k',sd,_,h2⟩:=hC;exact bL W _ h2.c0
 have l7:Hid (∀b o,a=some ⟨b,o,none⟩->0 < n->b < W.heap.size):=hid (λb o e l8=>by
  obtain⟨k',sd,_,h2⟩:=hC;exact h2.byteLt e l8)
 have HC:=hid hC;clear hC;go_enter Tryz.func12,Tryz.ntmps12
 go_upto_region 2 with (first|(go_at_call 35;refine(KP.out W k 4 HC.out Oo Oo).mono ?_;rintro e w1 ⟨z1,rfl,m0,j1,g6⟩))
 obtain⟨q,hq,g7,g8⟩:∃q:Nat,(2:Int)+(z1:Int)=(q:Int)/\2<=q/\q<=5:=⟨2+z1,Oo,Oo,Oo⟩;rw[hq];have j3:=g6.size;have h0:Hid (DrawnL W g a n cap (k+1) q (w1.alloc (.cells #[] 25)) (.slice (some ⟨w1.heap.size,0,none⟩) 0 0) []):=hid ⟨⟨oM w1 #[] 0 j3 Dd rfl,λu hu=>by simp at hu⟩,j1.below ((bM _ _).alloc (bK _) _),g6.below ((bM _ _).alloc j3 _),l6,l7.out,λu hu=>by simp at hu⟩;clear j1 g6 m0 hq HC;go_upto_region 3 with fail
 generalize w1.alloc (.cells #[] 25)=W1 at *;generalize w1.heap.size=g1 at *;go_upto_if 22 with (first|(go_at_call 35;refine(KP.out W1 (k+1) 3 h0.out.cur Oo Oo).mono ?_;rintro e w2 ⟨z2,rfl,j4,j5,j6⟩))
 have O:=hid (h0.out.turn j6 j5);clear h0 j5 j6 j4;go_cut [5] (λv wx=>∃E:List (Value×List Int),E.length<=5/\Hid (DrawnL W g a n cap (k+2) q wx v E))
 case first=>
  by_cases h2:z2=0
  ·subst h2;go_wp2;go_loopw [5,6] (λv t wr=>∃(i:Nat) (vs:Value) (E:List (Value×List Int)),i<=q/\t=.int .i64 i/\vs=v/\E.length<=i/\Hid (DrawnL W g a n cap (k+2) q wr vs E)) (λ_ t _=>q - (intOf t).toNat)
   case atStart=>exact⟨0,_,[],nZ _,rfl,rfl,nZ _,O⟩
   case round=>
    clear O;obtain⟨i,vs,E,m1,rfl,rfl,n6,O⟩:=hrel;by_cases m2:i < q
    ·have i1:(i:Int) < (q:Int):=Oo;have a2:=O.out.kc.size;by_cases hl:i+1 < q
     ·have r1:((i:Int)+1) % (q:Int)=(i:Int)+1:=Int.emod_eq_of_lt Oo Oo;have r0:Int.tmod ((i:Int)+1) (q:Int)=(i:Int)+1:=by rw[Int.tmod_eq_emod_of_nonneg Oo,r1]
      have r2:¬((i:Int)+1 < (i:Int)):=Oo;have r3:((i:Int) != (i:Int)+1)=true:=by simp;omega
      have r4:¬((i:Int)=(i:Int)+1):=Oo;have HR:=hid (uy wr W.heap.size [(i:Int),(i:Int)+1] a2 Ss Ss);have V:=hid (O.out.bel ((bM _ _).alloc (bK _) (.cells #[.int .i64 i,.int .i64 (i+1)] 3)))
      go_wp2_with (first
       |(at_builtin;refine wpList_append_own _ rfl _ _ 24 rfl W.heap.size 25 iS (.slice none 0 0) 1 24 Tryz.underlying24 U d8 d9 e2 rfl Dd _ _ _ rfl (V.out.pat.own.alloc _) ⟨wr.heap.size+1,0,none⟩ 1 1 [.slice (some ⟨wr.heap.size,0,none⟩) 2 2] rfl rfl ?c1a ?c1b ?c1c ?c1d ?c1e ?_)
       |fail)
      try(case c1a=>
       intro j u U
       match j,U with
       |0,U=>simp at U;subst U;simp[Addr.add])
      try(case c1b=>first|rfl|(intro u hu;simp at hu;subst hu;rfl))
      try(case c1c=>unfold maxLen;(first|omega|(simp;omega)))
      try(case c1d=>(first|omega|(simp;omega)))
      try(case c1e=>(first|omega|(simp;omega)))
      intro v' w1 I K _;have HE:=hid (V.out.push I K HR.out (EdG.two Oo Oo Oo));clear I K;go_wp2;go_roundw
      case rel=>first|exact⟨i+1,v',_,Oo,Gg,rfl,by simp;omega,HE⟩|((repeat apply Exists.intro);exact⟨⟨i+1,v',_,Oo,Gg,rfl,by simp;omega,HE⟩,rfl⟩)
      case measure=>simp[intOf];omega
     ·have e1:(i:Int)+1=(q:Int):=Oo;have r1:((i:Int)+1) % (q:Int)=0:=by rw[e1];exact Int.emod_self
      have r0:Int.tmod ((i:Int)+1) (q:Int)=0:=by rw[Int.tmod_eq_emod_of_nonneg Oo,r1]
      have r2:(0:Int) < (i:Int):=Oo;have r3:((0:Int) != (i:Int))=true:=by simp;omega
      have r4:¬((0:Int)=(i:Int)):=Oo;have HR:=hid (uy wr W.heap.size [(0:Int),(i:Int)] a2 Ss Ss);have V:=hid (O.out.bel ((bM _ _).alloc (bK _) (.cells #[.int .i64 0,.int .i64 i] 3)))
      go_wp2_with (first
       |(at_builtin;refine wpList_append_own _ rfl _ _ 24 rfl W.heap.size 25 iS (.slice none 0 0) 1 24 Tryz.underlying24 U d8 d9 e2 rfl Dd _ _ _ rfl (V.out.pat.own.alloc _) ⟨wr.heap.size+1,0,none⟩ 1 1 [.slice (some ⟨wr.heap.size,0,none⟩) 2 2] rfl rfl ?c2a ?c2b ?c2c ?c2d ?c2e ?_)
       |fail)
      try(case c2a=>
       intro j u U
       match j,U with
       |0,U=>simp at U;subst U;simp[Addr.add])
      try(case c2b=>first|rfl|(intro u hu;simp at hu;subst hu;rfl))
      try(case c2c=>unfold maxLen;(first|omega|(simp;omega)))
      try(case c2d=>(first|omega|(simp;omega)))
      try(case c2e=>(first|omega|(simp;omega)))
      intro v' w1 I K _;have HE:=hid (V.out.push I K HR.out (EdG.two Oo Oo Oo));clear I K;go_wp2;go_roundw
      case rel=>first|exact⟨i+1,v',_,Oo,Gg,rfl,by simp;omega,HE⟩|((repeat apply Exists.intro);exact⟨⟨i+1,v',_,Oo,Gg,rfl,by simp;omega,HE⟩,rfl⟩)
      case measure=>simp[intOf];omega
    ·obtain rfl:i=q:=Oo;have i1:¬((i:Int) < (i:Int)):=Oo;have e3:E.length<=5:=Oo;go_wp2;go_meet;exact⟨E,e3,O⟩
  ·have j2:¬((z2:Int)=0):=Oo;have i2:((z2:Int) == 0)=false:=by simp;omega
   go_wp2;go_meet;exact⟨[],Ss,O⟩
 case rest=>
 clear O;obtain⟨E,e3,O⟩:=hcut;generalize wc=W3 at *;go_upto_block 2 with (first|(go_at_call 35;refine(KP.out W3 (k+2) 3 O.out.cur Oo Oo).mono ?_;rintro e w3 ⟨z3,rfl,m3,k0,k1⟩))
 have h5:=hid (O.out.turn k1 k0);clear O k0 k1;go_cut [5] (λv wx=>∃E:List (Value×List Int),0 < E.length/\E.length<=7/\Hid (DrawnL W g a n cap (k+200) q wx v E))
 case first=>
  go_wp2_with fail
  go_loopw [5,10] (λv t wr=>∃(j:Nat) (vs:Value) (E:List (Value×List Int)),j<=1+z3/\t=.int .i64 j/\vs=v/\E.length<=7/\(0 < j->0 < E.length)/\(j=0->E.length<=5)/\Hid (DrawnL W g a n cap (k+3+30*j) q wr vs E)) (λ_ t _=>1+z3 - (intOf t).toNat)
  case atStart=>exact⟨0,_,_,nZ _,rfl,rfl,Oo,λh=>Oo,λ_=>e3,h5⟩
  case round=>
   clear h5 e3;obtain⟨j,vs,E,n8,rfl,rfl,a5,g4,m4,O⟩:=hrel;obtain⟨bb,pp,ev⟩:=O.out.pat.slice;subst ev;have a2:=O.out.kc.size
   have M:¬(j < 1+z3/\E.length < 7)->0 < E.length:=λ_=>by
    rcases Nat.eq_zero_or_pos j with h|h
    ·have:=m4 h;omega
    ·exact g4 h
   by_cases n9:j < 1+z3
   ·have i1:(j:Int) < 1+(z3:Int):=Oo;by_cases n4:E.length < 7
    ·have i2:(E.length:Int) < 7:=Oo;go_wp2_with fail
     refine(KD.out wr (k+3+30*j) q 3 O.out.cur Oo Oo Oo Oo).mono ?_;rintro e w4 ⟨vd,s,rfl,a6,hs,k4,k5⟩;have V:=hid (O.out.turn k5 k4);have HR:=hid (ZY a6 a2 Oo hs);obtain⟨gd,ld,cd,ed⟩:=HR.out.row1.form;subst ed;have n5:=V.out.kc.size;clear a6 hs k4 k5
     go_wp2_with (first
      |(at_builtin;refine wpList_append_own _ rfl _ _ 24 rfl W.heap.size 25 iS (.slice none 0 0) 1 24 Tryz.underlying24 U d8 d9 e2 rfl Dd _ _ _ rfl (V.out.pat.own.alloc _) ⟨w4.heap.size,0,none⟩ 1 1 [.slice (some ⟨gd,0,none⟩) ld cd] rfl rfl ?c3a ?c3b ?c3c ?c3d ?c3e ?_)
      |fail)
     try(case c3a=>
      intro j u U
      match j,U with
      |0,U=>simp at U;subst U;simp[Addr.add])
     try(case c3b=>first|rfl|(intro u hu;simp at hu;subst hu;rfl))
     try(case c3c=>unfold maxLen;(first|omega|(simp;omega)))
     try(case c3d=>(first|omega|(simp;omega)))
     try(case c3e=>(first|omega|(simp;omega)))
     intro v' w1 I K _;have HE:=hid (V.out.push I K HR.out (EdG.plc λj U _=>U));clear I K;go_wp2;go_roundw
     case rel=>first|exact⟨j+1,v',_,Oo,Gg,rfl,by simp;omega,λ_=>Ss,λh=>Oo,hid (HE.out.mono Oo)⟩|((repeat apply Exists.intro);exact⟨⟨j+1,v',_,Oo,Gg,rfl,by simp;omega,λ_=>Ss,λh=>Oo,hid (HE.out.mono Oo)⟩,rfl⟩)
     case measure=>simp[intOf];omega
    ·have i2:¬((E.length:Int) < 7):=Oo;go_wp2;go_meet;exact⟨E,M Oo,a5,hid (O.out.mono Oo)⟩
   ·have i1:¬((j:Int) < 1+(z3:Int)):=Oo;go_wp2;go_meet;exact⟨E,by rcases Nat.eq_zero_or_pos j with h|h;(omega);(exact g4 h),a5,hid (O.out.mono Oo)⟩
 case rest=>
 clear h5 e3 m3;obtain⟨E,M,a5,O⟩:=hcut;generalize wc=W4 at *;go_wp2_with fail
 go_loopw [5,11] (λv t wr=>∃(i:Nat) (vs:Value) (E:List (Value×List Int)),i<=q/\t=.int .i64 i/\vs=v/\0 < E.length/\E.length<=7/\Hid (CovL E i)/\Hid (DrawnL W g a n cap (k+200+i) q wr vs E)) (λ_ t _=>q - (intOf t).toNat)
 case atStart=>exact⟨0,_,_,nZ _,rfl,rfl,M,a5,hid (λx hx=>Oo),O⟩
 case round=>
  clear O M a5;obtain⟨i,vs,E,m1,rfl,rfl,M,a5,a8,O⟩:=hrel;obtain⟨G,pp,ev,hG,m5⟩:=O.out.pat.form M;subst ev;have a2:=O.out.kc.size;by_cases m2:i < q
  ·have i1:(i:Int) < (q:Int):=Oo;go_upto_block 6 with fail
   go_cut [12] from 65 to 156 (λv wx=>∃b:Bool,v=.bool b/\wx=wr/\Hid (b=true->∃u∈E,(i:Int)∈u.2))
   case first=>
    go_wp2_with fail
    generalize wr=W5 at *;go_loopw [12,72] (λv t wr=>∃(j:Nat) (b:Bool),j<=E.length/\t=.int .i64 j/\v=.bool b/\wr=W5/\Hid (b=true->∃u∈E,(i:Int)∈u.2)) (λ_ t _=>E.length - (intOf t).toNat)
    case atStart=>exact⟨0,false,nZ _,rfl,rfl,rfl,hid (λh=>by cases h)⟩
    case round=>
     obtain⟨j,b,o2,rfl,rfl,hw,Hb⟩:=hrel;subst hw;by_cases k7:j < E.length
     ·have i2:(j:Int) < (E.length:Int):=Oo;obtain⟨c1,-,hr⟩:=O.out.pat.cell k7;obtain⟨l,hle⟩:∃l,l=(E.getD j (.slice none 0 0,[])).2:=⟨_,rfl⟩;have m6:Hid (decide ((i:Int)∈l)=true->∃u∈E,(i:Int)∈u.2):=hid λh=>⟨E.getD j (.slice none 0 0,[]),by rw[gD,bC k7];exact gM _,by rw[<-hle];exact of_decide_eq_true h⟩;rw[<-hle]at hr;clear hle;have hl:=hr.is;have e4:=hr.few;have KH:=hid (qU wr _ l (i:Int) hl Oo);generalize (E.getD j (.slice none 0 0,[])).1=uj at *;obtain⟨gu,lu,cu,eu⟩:=hr.row1.form;subst eu;generalize decide ((i:Int)∈l)=bh at *;clear hl;cases b
      ·go_wp2_with (first
        |(go_at_call 16;refine KH.out.mono ?_;rintro e w' ⟨rfl,o3⟩;subst w')
        |fail)
       go_roundw
       case rel=>exact⟨j+1,_,Oo,Gg,rfl,by trivial,m6⟩
       case measure=>simp[intOf];omega
      ·go_wp2;go_roundw
       case rel=>exact⟨j+1,_,Oo,Gg,rfl,by trivial,Hb⟩
       case measure=>simp[intOf];omega
     ·obtain rfl:j=E.length:=Oo;have i2:¬((E.length:Int) < (E.length:Int)):=Oo;go_wp2;go_meet;exact⟨b,rfl,rfl,Hb⟩
   case rest=>
   obtain⟨b,rfl,o4,Hb⟩:=hcut;subst wc;cases b
   case true=>
    go_wp2;go_roundw
    case rel=>exact⟨i+1,_,E,Oo,Gg,rfl,M,a5,hid (a8.out.has (Hb.out rfl)),hid (O.out.mono Oo)⟩
    case measure=>simp[intOf];omega
   case false=>
    clear Hb;obtain⟨m,hm⟩:∃m,E.length=m+1:=⟨E.length - 1,Oo⟩;have HM:=hid hm;have o5:(E.length:Int) - 1=(m:Int):=Oo;clear hm;go_upto_region 30 with fail
    go_cut [99] from 65 to 156 (λv wx=>∃b:Bool,v=.bool b/\(b=true->0 < i/\E.length < 7)/\Hid (DrawnL W g a n cap (k+200+i+1) q wx (.slice (some ⟨G,0,none⟩) E.length pp) E)/\Hid (wr.heap.size<=wx.heap.size))
    case first=>
     by_cases k8:0 < i
     ·have i2:(0:Int) < (i:Int):=Oo;by_cases h7:E.length < 7
      ·have i3:(E.length:Int) < 7:=Oo;go_wp2_with (first|(go_at_call 35;refine(KP.out wr (k+200+i) 3 O.out.cur Oo Oo).mono ?_;rintro e w5 ⟨z5,rfl,o6,m7,k9⟩)|fail)
       go_meet;exact⟨_,rfl,λ_=>⟨k8,h7⟩,hid (O.out.turn k9 m7),hid k9.size⟩
      ·have i3:¬((E.length:Int) < 7):=Oo;go_wp2;go_meet;exact⟨false,rfl,(λh=>by cases h),hid (O.out.mono Oo),hid (bK _)⟩
     ·have i2:¬((0:Int) < (i:Int)):=Oo;go_wp2;go_meet;exact⟨false,rfl,(λh=>by cases h),hid (O.out.mono Oo),hid (bK _)⟩
    case rest=>
    obtain⟨b,rfl,hb,l1,g5⟩:=hcut;have a9:G < wc.heap.size:=by have:=g5.out;omega
    clear O m5 a2 g5;have O:=l1;clear l1;have a2:=O.out.kc.size;generalize wc=wr at *;have e5:m < E.length:=by have:=HM.out;omega
    cases b
    case true=>
     obtain⟨k8,h7⟩:=hb rfl;have HR:=hid (uy wr W.heap.size [(i:Int) - 1,(i:Int)] a2 Ss Ss);have V:=hid (O.out.bel ((bM _ _).alloc (bK _) (.cells #[.int .i64 ((i:Int) - 1),.int .i64 i] 3)))
     go_wp2_with (first
      |(at_builtin;refine wpList_append_own _ rfl _ _ 24 rfl W.heap.size 25 iS (.slice none 0 0) 1 24 Tryz.underlying24 U d8 d9 e2 rfl Dd _ _ _ rfl (V.out.pat.own.alloc _) ⟨wr.heap.size+1,0,none⟩ 1 1 [.slice (some ⟨wr.heap.size,0,none⟩) 2 2] rfl rfl ?c4a ?c4b ?c4c ?c4d ?c4e ?_)
      |fail)
     try(case c4a=>
      intro j u U
      match j,U with
      |0,U=>simp at U;subst U;simp[Addr.add])
     try(case c4b=>first|rfl|(intro u hu;simp at hu;subst hu;rfl))
     try(case c4c=>unfold maxLen;(first|omega|(simp;omega)))
     try(case c4d=>(first|omega|(simp;omega)))
     try(case c4e=>(first|omega|(simp;omega)))
     intro v' w1 I K _;have HE:=hid (V.out.push I K HR.out (EdG.two Oo Oo Oo));clear I K;go_wp2;go_roundw
     case rel=>exact⟨i+1,v',_,Oo,Gg,rfl,Ss,by simp;omega,hid (a8.out.push Ss),hid (HE.out.mono Oo)⟩
     case measure=>simp[intOf];omega
    case false=>
     clear hb;obtain⟨c1,f1,hr⟩:=O.out.pat.cell e5;obtain⟨l,hle⟩:∃l,l=(E.getD m (.slice none 0 0,[])).2:=⟨_,rfl⟩;have m8:Hid (EdG q l):=hid (by rw[hle];exact O.out.gd _ (by rw[gD,bC e5];exact gM _));rw[<-hle]at hr;have m9:=hid hle;clear hle;generalize (E.getD m (.slice none 0 0,[])).1=um at *;obtain⟨l2,e4,a6⟩:=hr
     obtain⟨gu,cu,eu⟩:∃gu cu,um=.slice (some ⟨gu,0,none⟩) l.length cu:=by
      rcases a6.2 with ⟨_,h4⟩|⟨g,cp,cur,hv,_⟩
      ·omega
      ·exact⟨g,cp,hv⟩
     subst eu;have d0:=hid a6;obtain⟨p,hp⟩:∃p,l.length=p+1:=⟨l.length - 1,Oo⟩
     have c2:wr.cell? ⟨gu,p,none⟩=some (.int .i64 (l.getD p 0)):=by
      have:=a6.cellAt p Oo;rw[this,bN,bC Oo];simp[List.getD_eq_getElem?_getD,show p < l.length by omega]
     have o7:(l.length:Int) - 1=(p:Int):=Oo;have g5:Hid (l.getD p 0 < (i:Int)->EdG q (l++[(i:Int)])):=hid λh=>m8.out.snoc hp h Oo;have o8:(p:Int) < (l.length:Int):=Oo;have o9:(m:Int) < (E.length:Int):=Oo;clear a6 hp;generalize l.getD p 0=x at *;by_cases h6:x < (i:Int)
     ·have d1:decide (x < (i:Int))=true:=decide_eq_true h6;by_cases p1:l.length < 3
      ·have i3:(l.length:Int) < 3:=Oo;have d3:decide ((l.length:Int) < 3)=true:=decide_eq_true i3;go_upto_region 32 with fail
       go_quiet (fail)
       have b0:Bl wr (wr.drewN nq):=below_drewN (bM _ wr) nq;have a3:=hid (O.out.bel b0);have h8:(wr.drewN nq).cell? ⟨G,m,none⟩=some (.slice (some ⟨gu,0,none⟩) l.length cu):=c1;have h9:Hid ((wr.drewN nq).ownsRow W.heap.size 3 1 (.slice (some ⟨gu,0,none⟩) l.length cu) l.length (l.map (Value.int .i64))):=hid d0.out;clear O d0 c1 f1 c2 b0 a2 a9;generalize wr.drewN nq=wx at *;have a2:=a3.out.kc.size;have N1:∀j u,(l.map (Value.int .i64))[j]?=some u->(wx.alloc (.cells #[] 3)).cell? ((⟨gu,0,none⟩:Addr).add j)=some u:=λj u h=>(h9.out.alloc _).cells rfl j u h;have l3:=hid N1;have c1a:∀o',(wx.alloc o').cell? ⟨G,m,none⟩=some (.slice (some ⟨gu,0,none⟩) l.length cu):=λo'=>(((bM wx.heap.size wx).alloc (bK _) o').cell (p:=⟨G,m,none⟩) (bL wx _ h8)).trans h8;clear N1
       go_wp2_with (first
        |(at_builtin;refine wpList_append_own _ rfl _ _ 25 rfl wx.heap.size 3 i0 (.int .i64 0) 1 8 Tryz.underlying25 hi i8 i9 j0 rfl Dd _ _ _ rfl (oM wx #[] 0 (bK _) Dd rfl) ⟨gu,0,none⟩ l.length cu (l.map (Value.int .i64)) rfl Ss l3.out (qDT l) (by unfold maxLen;omega) Oo Ss ?_)
        |fail)
       intro v7 w7 c7 d6 _;have i4:Bl wx w7:=((bM _ wx).alloc (bK _) _).grown d6 Ss (λc e=>by simp[Value.ownBlock]at e;omega);have n3:=i4.size;clear d6
       go_wp2_with (first
        |(at_builtin;refine wpList_append_own _ rfl _ _ 25 rfl wx.heap.size 3 i0 (.int .i64 0) 1 8 Tryz.underlying25 hi i8 i9 j0 rfl Dd _ _ _ rfl (c7.alloc _) ⟨w7.heap.size,0,none⟩ 1 1 [.int .i64 i] rfl rfl ?y1 ?y2 ?y3 ?y4 ?y5 ?_)
        |fail)
       try(case y1=>
        intro j u U
        match j,U with
        |0,U=>simp at U;subst U;simp[Addr.add])
       try(case y2=>first|rfl|(intro u hu;simp at hu;subst hu;rfl))
       try(case y3=>unfold maxLen;(first|omega|(simp;omega)))
       try(case y4=>(first|omega|(simp;omega)))
       try(case y5=>(first|omega|(simp;omega)))
       intro v9 w9 e6 d7 _;have l4:Bl wx w9:=(i4.alloc n3 _).grown d7 (by simp;omega) (λc e=>(c7.lt c e).1);have HR:Hid (RowL w9 W.heap.size v9 (l++[(i:Int)])):=hid ⟨Ss,by simp;omega,qCI (by simpa using e6) a2⟩;have l5:=hid (a3.out.bel l4);obtain⟨g9,l9,c9,e9⟩:=HR.out.row1.form;subst e9;obtain⟨p2,f9,-⟩:=l5.out.pat.cell e5;generalize (E.getD m (.slice none 0 0,[])).1=u9 at *;clear e6 d7 c7 i4 l4 l3 h8 c1a;go_wp2;go_roundw
       case rel=>exact⟨i+1,_,E.set m (.slice (some ⟨g9,0,none⟩) l9 c9,l++[(i:Int)]),Oo,Gg,rfl,by rw[List.length_set];exact M,by rw[List.length_set];exact a5,hid (a8.out.put e5 (λx hx=>List.mem_append_left _ (by rw[m9.out];exact hx)) Ss),hid ((l5.out.put hG e5 HR.out (g5.out h6)).mono Oo)⟩
       case measure=>simp[intOf];omega
      ·have i3:¬((l.length:Int) < 3):=Oo;have d3:decide ((l.length:Int) < 3)=false:=decide_eq_false i3;go_upto_region 32 with fail
       go_quiet (fail)
       have b0:Bl wr (wr.drewN nq):=below_drewN (bM _ wr) nq;have a3:=hid (O.out.bel b0);clear O d0 c1 f1 c2 b0 a2 a9 l2 e4;generalize wr.drewN nq=wx at *;have a2:=a3.out.kc.size;have a9:=(a3.out.pat.own.lt G rfl).2;by_cases h7:E.length < 7
       ·have i7:(E.length:Int) < 7:=Oo;have HR:=hid (uy wx W.heap.size [(i:Int)] a2 Ss Ss);have V:=hid (a3.out.bel ((bM _ _).alloc (bK _) (.cells #[.int .i64 i] 3)))
        go_wp2_with (first
         |(at_builtin;refine wpList_append_own _ rfl _ _ 24 rfl W.heap.size 25 iS (.slice none 0 0) 1 24 Tryz.underlying24 U d8 d9 e2 rfl Dd _ _ _ rfl (V.out.pat.own.alloc _) ⟨wx.heap.size+1,0,none⟩ 1 1 [.slice (some ⟨wx.heap.size,0,none⟩) 1 1] rfl rfl ?L5a ?L5b ?L5c ?L5d ?L5e ?_)
         |fail)
        try(case L5a=>
         intro j u U
         match j,U with
         |0,U=>simp at U;subst U;simp[Addr.add])
        try(case L5b=>first|rfl|(intro u hu;simp at hu;subst hu;rfl))
        try(case L5c=>unfold maxLen;(first|omega|(simp;omega)))
        try(case L5d=>(first|omega|(simp;omega)))
        try(case L5e=>(first|omega|(simp;omega)))
        intro v' w1 I K _;have HE:=hid (V.out.push I K HR.out (EdG.one Oo Oo));clear I K;go_wp2;go_roundw
        case rel=>exact⟨i+1,v',_,Oo,Gg,rfl,Ss,by simp;omega,hid (a8.out.push Ss),hid (HE.out.mono Oo)⟩
        case measure=>simp[intOf];omega
       ·have i7:¬((E.length:Int) < 7):=Oo;have g4:(0:Int) < (E.length:Int):=Oo;obtain⟨c0,f0,a7⟩:=a3.out.pat.cell M;obtain⟨l0,a4⟩:∃l0,l0=(E.getD 0 (.slice none 0 0,[])).2:=⟨_,rfl⟩;have b7:Hid (EdG q l0):=hid (by rw[a4];exact a3.out.gd _ (by rw[gD,bC M];exact gM _));rw[<-a4]at a7;have e7:=hid a4;clear a4;generalize (E.getD 0 (.slice none 0 0,[])).1=u0 at *;have e8:=a7.is;have e4:=a7.few;obtain⟨g0,n0,q0,e0⟩:=a7.row1.form;subst e0;have KU:=hid (jZ (wx.alloc (.cells #[.int .i64 i] 3)) _ _ l0 [(i:Int)] (e8.below ((bM _ _).alloc (bK _) _)) (qAF wx i) Oo Ss);clear e8 a7;go_wp2_with fail
        refine KU.out.mono ?_;rintro e w8 ⟨vU,rfl,f4,f7⟩;have b9:Bl wx w8:=((bM _ wx).alloc (bK _) _).trans (f7.mono Ss);have HR:=hid (ZY f4 (B:=W.heap.size) (by simp;omega) Oo ⟨i,Oo,Ss⟩);have g2:=hid (a3.out.bel b9)
        have i5:Hid (EdG q (plc (λj:Nat=>decide ((j:Int)∈l0)||decide ((j:Int)∈[(i:Int)])) 6)):=hid (EdG.plc λj _ h=>by
         simp only[Bool.or_eq_true,decide_eq_true_eq,List.mem_singleton]at h;rcases h with h|h
         ·have:=(b7.out.2 _ h).2;omega
         ·omega)
        have i6:Hid (CovL (E.set 0 (vU,plc (λj:Nat=>decide ((j:Int)∈l0)||decide ((j:Int)∈[(i:Int)])) 6)) (i+1)):=hid (a8.out.put M (λx hx=>by
         rw[<-e7.out]at hx;have:=b7.out.2 x hx;exact kU Oo Oo (by simp[Int.toNat_of_nonneg this.1,hx])) (kU Oo Oo Ss))
        obtain⟨gU,lU,cU,eU⟩:=HR.out.row1.form;subst eU;obtain⟨c8,f8,-⟩:=g2.out.pat.cell M;generalize (E.getD 0 (.slice none 0 0,[])).1=u8 at *;clear f4 f7 b9 c0 f0;go_wp2;go_roundw
        case rel=>exact⟨i+1,_,E.set 0 (.slice (some ⟨gU,0,none⟩) lU cU,_),Oo,Gg,rfl,by rw[List.length_set];exact M,by rw[List.length_set];exact a5,i6,hid ((g2.out.put hG M HR.out i5.out).mono Oo)⟩
        case measure=>simp[intOf];omega
     ·have d1:decide (x < (i:Int))=false:=decide_eq_false h6;go_upto_region 32 with fail
      go_quiet (fail)
      have b0:Bl wr (wr.drewN nq):=below_drewN (bM _ wr) nq;have a3:=hid (O.out.bel b0);clear O d0 c1 f1 c2 b0 a2 a9 l2 e4;generalize wr.drewN nq=wx at *;have a2:=a3.out.kc.size;have a9:=(a3.out.pat.own.lt G rfl).2;by_cases h7:E.length < 7
      ·have i7:(E.length:Int) < 7:=Oo;have HR:=hid (uy wx W.heap.size [(i:Int)] a2 Ss Ss);have V:=hid (a3.out.bel ((bM _ _).alloc (bK _) (.cells #[.int .i64 i] 3)))
       go_wp2_with (first
        |(at_builtin;refine wpList_append_own _ rfl _ _ 24 rfl W.heap.size 25 iS (.slice none 0 0) 1 24 Tryz.underlying24 U d8 d9 e2 rfl Dd _ _ _ rfl (V.out.pat.own.alloc _) ⟨wx.heap.size+1,0,none⟩ 1 1 [.slice (some ⟨wx.heap.size,0,none⟩) 1 1] rfl rfl ?L6a ?L6b ?L6c ?L6d ?L6e ?_)
        |fail)
       try(case L6a=>
        intro j u U
        match j,U with
        |0,U=>simp at U;subst U;simp[Addr.add])
       try(case L6b=>first|rfl|(intro u hu;simp at hu;subst hu;rfl))
       try(case L6c=>unfold maxLen;(first|omega|(simp;omega)))
       try(case L6d=>(first|omega|(simp;omega)))
       try(case L6e=>(first|omega|(simp;omega)))
       intro v' w1 I K _;have HE:=hid (V.out.push I K HR.out (EdG.one Oo Oo));clear I K;go_wp2;go_roundw
       case rel=>exact⟨i+1,v',_,Oo,Gg,rfl,Ss,by simp;omega,hid (a8.out.push Ss),hid (HE.out.mono Oo)⟩
       case measure=>simp[intOf];omega
      ·have i7:¬((E.length:Int) < 7):=Oo;have g4:(0:Int) < (E.length:Int):=Oo;obtain⟨c0,f0,a7⟩:=a3.out.pat.cell M;obtain⟨l0,a4⟩:∃l0,l0=(E.getD 0 (.slice none 0 0,[])).2:=⟨_,rfl⟩;have b7:Hid (EdG q l0):=hid (by rw[a4];exact a3.out.gd _ (by rw[gD,bC M];exact gM _));rw[<-a4]at a7;have e7:=hid a4;clear a4;generalize (E.getD 0 (.slice none 0 0,[])).1=u0 at *;have e8:=a7.is;have e4:=a7.few;obtain⟨g0,n0,q0,e0⟩:=a7.row1.form;subst e0;have KU:=hid (jZ (wx.alloc (.cells #[.int .i64 i] 3)) _ _ l0 [(i:Int)] (e8.below ((bM _ _).alloc (bK _) _)) (qAF wx i) Oo Ss);clear e8 a7;go_wp2_with fail
       refine KU.out.mono ?_;rintro e w8 ⟨vU,rfl,f4,f7⟩;have b9:Bl wx w8:=((bM _ wx).alloc (bK _) _).trans (f7.mono Ss);have HR:=hid (ZY f4 (B:=W.heap.size) (by simp;omega) Oo ⟨i,Oo,Ss⟩);have g2:=hid (a3.out.bel b9)
       have i5:Hid (EdG q (plc (λj:Nat=>decide ((j:Int)∈l0)||decide ((j:Int)∈[(i:Int)])) 6)):=hid (EdG.plc λj _ h=>by
        simp only[Bool.or_eq_true,decide_eq_true_eq,List.mem_singleton]at h;rcases h with h|h
        ·have:=(b7.out.2 _ h).2;omega
        ·omega)
       have i6:Hid (CovL (E.set 0 (vU,plc (λj:Nat=>decide ((j:Int)∈l0)||decide ((j:Int)∈[(i:Int)])) 6)) (i+1)):=hid (a8.out.put M (λx hx=>by
        rw[<-e7.out]at hx;have:=b7.out.2 x hx;exact kU Oo Oo (by simp[Int.toNat_of_nonneg this.1,hx])) (kU Oo Oo Ss))
       obtain⟨gU,lU,cU,eU⟩:=HR.out.row1.form;subst eU;obtain⟨c8,f8,-⟩:=g2.out.pat.cell M;generalize (E.getD 0 (.slice none 0 0,[])).1=u8 at *;clear f4 f7 b9 c0 f0;go_wp2;go_roundw
       case rel=>exact⟨i+1,_,E.set 0 (.slice (some ⟨gU,0,none⟩) lU cU,_),Oo,Gg,rfl,by rw[List.length_set];exact M,by rw[List.length_set];exact a5,i6,hid ((g2.out.put hG M HR.out i5.out).mono Oo)⟩
       case measure=>simp[intOf];omega
  ·obtain rfl:i=q:=Oo;have i1:¬((i:Int) < (i:Int)):=Oo;go_wp2;go_ret2;have HF:=O.out.mono (l:=k+1000) Oo;first|exact⟨i,_,E,rfl,g7,g8,M,a5,a8.out,HF⟩|exact⟨i,_,rfl,g7,g8,E,M,a5,a8.out,HF⟩|exact⟨i,_,rfl,E,g7,g8,M,a5,a8.out,HF⟩
end Go.Proofs.YtkaipapdlnojiaaGreat
