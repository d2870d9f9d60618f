import Derived.Test.YtkaipapdlnojiaaGreatWq13
set_option maxHeartbeats 40000000
set_option maxRecDepth 1000000
namespace Go.Proofs.YtkaipapdlnojiaaGreat
open Go.RowKit
variable {a x y:Int}{b l ls:List (List Int)}{p q r s:List Int}{g j n:Nat}{w w':World}
def Two(w:World)(g:Nat)(x y:Int):Prop:=w.cell? ⟨g,0,none⟩=some (.int .i64 x)/\w.cell? ⟨g,1,none⟩=some (.int .i64 y)/\w.frozen? ⟨g,0,none⟩=false/\w.frozen? ⟨g,1,none⟩=false
theorem Two.below(h:Two w g x y)(I:g < w.heap.size)(hb:Bl w w'):Two w' g x y:=
 ⟨(hb.cell (p:=⟨g,0,none⟩) I).trans h.1,(hb.cell (p:=⟨g,1,none⟩) I).trans h.2.1,(World.frozen?_of_block (w:=w) (a:=⟨g,0,none⟩) (hb.block g I)).trans h.2.2.1,(World.frozen?_of_block (w:=w) (a:=⟨g,1,none⟩) (hb.block g I)).trans h.2.2.2⟩
theorem Two.set{b:Int}(h:Two w g a b)(x y:Int):Two ((w.setCell ⟨g,0,none⟩ (.int .i64 x)).setCell ⟨g,1,none⟩ (.int .i64 y)) g x y:=by
 have n1:∀v,(w.setCell ⟨g,0,none⟩ v).cell? ⟨g,1,none⟩=some (.int .i64 b):=λv=>(bD _ _ _ _ Ss).trans h.2.1;refine⟨(bD _ _ _ _ Ss).trans (bI _ _ _ h.1),bI _ _ _ (n1 _),?_,?_⟩
 ·rw[fS,fS];exact h.2.2.1
 ·rw[fS,fS];exact h.2.2.2
theorem Two.other{g':Nat}{b:Int}(h:Two w g a b)(I:g≠g')(x y:Value):Two ((w.setCell ⟨g',0,none⟩ x).setCell ⟨g',1,none⟩ y) g a b:=by
 have ne:∀i j:Nat,(⟨g,i,none⟩:Addr)≠⟨g',j,none⟩:=λi j e=>by simp only[Addr.mk.injEq]at e;exact I e.1
 refine⟨?_,?_,?_,?_⟩
 ·rw[bD _ _ _ _ (by first|exact ne _ _|exact(ne _ _).symm),bD _ _ _ _ (by first|exact ne _ _|exact(ne _ _).symm)];exact h.1
 ·rw[bD _ _ _ _ (by first|exact ne _ _|exact(ne _ _).symm),bD _ _ _ _ (by first|exact ne _ _|exact(ne _ _).symm)];exact h.2.1
 ·rw[fS,fS];exact h.2.2.1
 ·rw[fS,fS];exact h.2.2.2
theorem Kg(w:World)(v:Value)(l:List (Int×Int))(h:IR w v l)(hl:l.length<=1000)(s:Nat->Int×Int)(h0:s 0=(0,1))
 (hs:∀k w,k < l.length->Cl 58 #[.agg #[.int .i64 (s k).1,.int .i64 (s k).2],.agg #[.int .i64 (l.getD k (0,0)).1,.int .i64 (l.getD k (0,0)).2]] w λe w'=>e=.returned (.agg #[.int .i64 (s (k+1)).1,.int .i64 (s (k+1)).2])/\Bl w w'):
 Cl 31 #[v] w λe w'=>e=.returned (.agg #[.int .i64 (s l.length).1,.int .i64 (s l.length).2])/\Bl w w':=by
 obtain⟨a,cap,rfl,hc⟩:=h;obtain⟨n,hn⟩:∃n,n=l.length:=⟨_,rfl⟩;rw[<-hn]at hc hl hs ⊢;have HC:=hid hc;have HS:=hid hs;have H0:=hid h0;clear hc hs hn h0;go_enter Tryz.func31,Tryz.ntmps31
 go_wp2;have a3:Bl w ((w.alloc (.cells #[.int .i64 0,.int .i64 0] 28)).alloc (.cells #[.int .i64 0,.int .i64 1] 28)):=((bM _ _).alloc (bK _) _).alloc Ss _
 have t1:Two ((w.alloc (.cells #[.int .i64 0,.int .i64 0] 28)).alloc (.cells #[.int .i64 0,.int .i64 1] 28)) w.heap.size 0 0:=
  ⟨by rw[World.cell?_alloc_past _ _ _ Ss,cA _ _ _ _ rfl];rfl,by rw[World.cell?_alloc_past _ _ _ Ss,cA _ _ _ _ rfl];rfl,by rw[World.frozen?_alloc_past _ _ _ Ss,World.frozen?_alloc_at _ _ _ _ rfl],by rw[World.frozen?_alloc_past _ _ _ Ss,World.frozen?_alloc_at _ _ _ _ rfl]⟩
 have t2:Two ((w.alloc (.cells #[.int .i64 0,.int .i64 0] 28)).alloc (.cells #[.int .i64 0,.int .i64 1] 28)) (w.heap.size+1) 0 1:=
  ⟨by rw[cA _ _ _ _ Ss];rfl,by rw[cA _ _ _ _ Ss];rfl,World.frozen?_alloc_at _ _ _ _ Ss,World.frozen?_alloc_at _ _ _ _ Ss⟩
 have T1:=hid t1;have T2:=hid t2;have a4:=hid a3;clear t1 t2 a3;go_loopw [9] (λt wr=>∃k:Nat,k<=n/\t=.int .i64 k/\w.heap.size+1 < wr.heap.size/\Hid (Bl w wr/\Two wr w.heap.size 0 0/\Two wr (w.heap.size+1) (s k).1 (s k).2)) (λt _=>n - (intOf t).toNat)
 case atStart=>exact⟨0,nZ _,rfl,Ss,hid ⟨a4.out,T1.out,by rw[H0.out];exact T2.out⟩⟩
 case round=>
  clear T1 T2 a4;obtain⟨k,hk,rfl,a9,hH⟩:=hrel;by_cases a5:k < n
  ·have i1:(k:Int) < (n:Int):=Oo;rcases HC.out with h0|⟨b,o,rfl,O⟩
   ·omega
   ·obtain⟨M,I,K⟩:=hH.out;obtain⟨d1,d2⟩:=O k a5;have c1:=(M.cell (p:=⟨b,o+k*2,none⟩) (bL w _ d1)).trans d1;have c2:=(M.cell (p:=⟨b,o+k*2+1,none⟩) (bL w _ d2)).trans d2;have HK:Hid (∀w,_):=hid (λw=>HS.out k w a5);have a6:∀ob,Bl wr (wr.alloc ob):=λob=>(bM _ _).alloc (bK _) ob;have c3:=K.1;have c4:=K.2.1;have HH:=hid (And.intro M (And.intro I K));have a8:=hid a6;clear O d1 d2 M I K hH a6;generalize (l.getD k (0,0)).1=x at *;generalize (l.getD k (0,0)).2=y at *;obtain⟨x2,V⟩:∃t,t=(s (k+1)).1:=⟨_,rfl⟩;obtain⟨y2,a2⟩:∃t,t=(s (k+1)).2:=⟨_,rfl⟩;rw[<-V,<-a2]at HK;have HX:=hid V;have HY:=hid a2;clear V a2;go_wp2_with (first|(go_at_call 58;refine(HK.out _).mono ?_;rintro e w2 ⟨rfl,a7⟩;have U:=bt (a8.out _) a7;have q1:=HH.out.2.1.below Oo U;have q2:=HH.out.2.2.below Oo U;have q3:=bt HH.out.1 U;have q4:=U.size;have e1:=q2.1;have e2:=q2.2.1;have e3:=q2.2.2.1;have e4:=q2.2.2.2;have HQ:=hid (And.intro q1 (And.intro q2 q3));clear a7 U q1 q2 q3))
    go_roundw
    case rel=>exact⟨k+1,Oo,Gg,by simp[World.setCell];omega,hid ⟨(HQ.out.2.2.setCell (by show w.heap.size<=w.heap.size+1;omega) _).setCell (by show w.heap.size<=w.heap.size+1;omega) _,HQ.out.1.other Oo _ _,by rw[<-HX.out,<-HY.out];exact HQ.out.2.1.set _ _⟩⟩
    case measure=>simp[intOf];omega
  ·obtain rfl:k=n:=Oo;have i1:¬((k:Int) < (k:Int)):=Oo;obtain⟨M,I,K⟩:=hH.out;have c1:=I.1;have c2:=I.2.1;have c3:=I.2.2.1;have c4:=I.2.2.2;have e1:=K.1;have e2:=K.2.1;obtain⟨x,hx⟩:∃t,t=(s k).1:=⟨_,rfl⟩;obtain⟨y,hy⟩:∃t,t=(s k).2:=⟨_,rfl⟩;rw[<-hx]at e1;rw[<-hy]at e2;have HX:=hid hx;have HY:=hid hy;have HQ:=hid (And.intro M (I.set x y));clear hH I K hx hy M;go_wp2;have r1:=HQ.out.2.1;have r2:=HQ.out.2.2.1;refine bodyPost_ret (v:=.agg #[.int .i64 x,.int .i64 y]) (by simp[results,Tryz.results31,go_sem,r1,r2]) rfl ⟨by rw[HX.out,HY.out],(HQ.out.1.setCell (bK _) _).setCell (bK _) _⟩
theorem Kh(w:World)(v:Value)(l:List (Int×Int))(h:IR w v l)(hl:l.length<=1000)(s:Nat->Int×Int)(h0:s 0=(0,1))
 (hs:∀k w,k < l.length->Cl 47 #[.agg #[.int .i64 (s k).1,.int .i64 (s k).2],.agg #[.int .i64 (l.getD k (0,0)).1,.int .i64 (l.getD k (0,0)).2]] w λe w'=>e=.returned (.agg #[.int .i64 (s (k+1)).1,.int .i64 (s (k+1)).2])/\Bl w w'):
 Cl 19 #[v] w λe w'=>e=.returned (.agg #[.int .i64 (s l.length).1,.int .i64 (s l.length).2])/\Bl w w':=by
 obtain⟨a,cap,rfl,hc⟩:=h;obtain⟨n,hn⟩:∃n,n=l.length:=⟨_,rfl⟩;rw[<-hn]at hc hl hs ⊢;have HC:=hid hc;have HS:=hid hs;have H0:=hid h0;clear hc hs hn h0;go_enter Tryz.func19,Tryz.ntmps19
 go_wp2;have a3:Bl w ((w.alloc (.cells #[.int .i64 0,.int .i64 0] 28)).alloc (.cells #[.int .i64 0,.int .i64 1] 28)):=((bM _ _).alloc (bK _) _).alloc Ss _
 have t1:Two ((w.alloc (.cells #[.int .i64 0,.int .i64 0] 28)).alloc (.cells #[.int .i64 0,.int .i64 1] 28)) w.heap.size 0 0:=
  ⟨by rw[World.cell?_alloc_past _ _ _ Ss,cA _ _ _ _ rfl];rfl,by rw[World.cell?_alloc_past _ _ _ Ss,cA _ _ _ _ rfl];rfl,by rw[World.frozen?_alloc_past _ _ _ Ss,World.frozen?_alloc_at _ _ _ _ rfl],by rw[World.frozen?_alloc_past _ _ _ Ss,World.frozen?_alloc_at _ _ _ _ rfl]⟩
 have t2:Two ((w.alloc (.cells #[.int .i64 0,.int .i64 0] 28)).alloc (.cells #[.int .i64 0,.int .i64 1] 28)) (w.heap.size+1) 0 1:=
  ⟨by rw[cA _ _ _ _ Ss];rfl,by rw[cA _ _ _ _ Ss];rfl,World.frozen?_alloc_at _ _ _ _ Ss,World.frozen?_alloc_at _ _ _ _ Ss⟩
 have T1:=hid t1;have T2:=hid t2;have a4:=hid a3;clear t1 t2 a3;go_loopw [9] (λt wr=>∃k:Nat,k<=n/\t=.int .i64 k/\w.heap.size+1 < wr.heap.size/\Hid (Bl w wr/\Two wr w.heap.size 0 0/\Two wr (w.heap.size+1) (s k).1 (s k).2)) (λt _=>n - (intOf t).toNat)
 case atStart=>exact⟨0,nZ _,rfl,Ss,hid ⟨a4.out,T1.out,by rw[H0.out];exact T2.out⟩⟩
 case round=>
  clear T1 T2 a4;obtain⟨k,hk,rfl,a9,hH⟩:=hrel;by_cases a5:k < n
  ·have i1:(k:Int) < (n:Int):=Oo;rcases HC.out with h0|⟨b,o,rfl,O⟩
   ·omega
   ·obtain⟨M,I,K⟩:=hH.out;obtain⟨d1,d2⟩:=O k a5;have c1:=(M.cell (p:=⟨b,o+k*2,none⟩) (bL w _ d1)).trans d1;have c2:=(M.cell (p:=⟨b,o+k*2+1,none⟩) (bL w _ d2)).trans d2;have HK:Hid (∀w,_):=hid (λw=>HS.out k w a5);have a6:∀ob,Bl wr (wr.alloc ob):=λob=>(bM _ _).alloc (bK _) ob;have c3:=K.1;have c4:=K.2.1;have HH:=hid (And.intro M (And.intro I K));have a8:=hid a6;clear O d1 d2 M I K hH a6;generalize (l.getD k (0,0)).1=x at *;generalize (l.getD k (0,0)).2=y at *;obtain⟨x2,V⟩:∃t,t=(s (k+1)).1:=⟨_,rfl⟩;obtain⟨y2,a2⟩:∃t,t=(s (k+1)).2:=⟨_,rfl⟩;rw[<-V,<-a2]at HK;have HX:=hid V;have HY:=hid a2;clear V a2;go_wp2_with (first|(go_at_call 47;refine(HK.out _).mono ?_;rintro e w2 ⟨rfl,a7⟩;have U:=bt (a8.out _) a7;have q1:=HH.out.2.1.below Oo U;have q2:=HH.out.2.2.below Oo U;have q3:=bt HH.out.1 U;have q4:=U.size;have e1:=q2.1;have e2:=q2.2.1;have e3:=q2.2.2.1;have e4:=q2.2.2.2;have HQ:=hid (And.intro q1 (And.intro q2 q3));clear a7 U q1 q2 q3))
    go_roundw
    case rel=>exact⟨k+1,Oo,Gg,by simp[World.setCell];omega,hid ⟨(HQ.out.2.2.setCell (by show w.heap.size<=w.heap.size+1;omega) _).setCell (by show w.heap.size<=w.heap.size+1;omega) _,HQ.out.1.other Oo _ _,by rw[<-HX.out,<-HY.out];exact HQ.out.2.1.set _ _⟩⟩
    case measure=>simp[intOf];omega
  ·obtain rfl:k=n:=Oo;have i1:¬((k:Int) < (k:Int)):=Oo;obtain⟨M,I,K⟩:=hH.out;have c1:=I.1;have c2:=I.2.1;have c3:=I.2.2.1;have c4:=I.2.2.2;have e1:=K.1;have e2:=K.2.1;obtain⟨x,hx⟩:∃t,t=(s k).1:=⟨_,rfl⟩;obtain⟨y,hy⟩:∃t,t=(s k).2:=⟨_,rfl⟩;rw[<-hx]at e1;rw[<-hy]at e2;have HX:=hid hx;have HY:=hid hy;have HQ:=hid (And.intro M (I.set x y));clear hH I K hx hy M;go_wp2;have r1:=HQ.out.2.1;have r2:=HQ.out.2.2.1;refine bodyPost_ret (v:=.agg #[.int .i64 x,.int .i64 y]) (by simp[results,Tryz.results19,go_sem,r1,r2]) rfl ⟨by rw[HX.out,HY.out],(HQ.out.1.setCell (bK _) _).setCell (bK _) _⟩
def uf(k:Int)(l:List Int):Bool:=decide (l.length=0)||decide (l.getD (l.length - 1) 0 < k)
def xC(es:List (List Int))(x:Int):Bool:=es.any λe=>decide (x∈e)
def xw(k:Int)(es:List (List Int)):Bool:=decide (0<=k)&&decide (k<=6)&&qj es&&es.all (uf k)&&(List.range k.toNat).all λv=>xC es (v:Int)
theorem U1{a:Addr}{v:Value}(hb:Bl w w')(h:w.cell? a=some v):w'.cell? a=some v:=
 (hb.cell (bL w _ h)).trans h
theorem yk{p:Nat->Bool}(I:j < n)(h:p j=false):(List.range n).all p=false:=by
 rw[List.all_eq_false];exact⟨j,by simpa using I,by rw[h];decide⟩
theorem yC{p:Nat->Bool}(h:∀i,i < n->p i=true):(List.range n).all p=true:=by
 rw[bY];intro i hi;exact h i (by simpa using hi)
theorem zp:∀a:List Int,cmpL a a=0
 |[]=>rfl
 |x::a=>by simp[cmpL,zp a]
theorem cmpL_eq:∀{a b:List Int},cmpL a b=0->a=b
 |[],[],_=>rfl
 |[],_::_,h=>by simp[cmpL]at h
 |_::_,[],h=>by simp[cmpL]at h
 |x::a,y::b,h=>by
  simp only[cmpL]at h;split at h
  ·omega
  ·split at h
   ·omega
   ·rw[cmpL_eq h,show x=y by omega]
theorem yV:∀a b:List Int,cmpL b a=- cmpL a b
 |[],[]=>rfl
 |[],_::_=>rfl
 |_::_,[]=>rfl
 |x::a,y::b=>by
  simp only[cmpL];by_cases I:x < y
  ·rw[if_neg Oo,if_pos I,if_pos I];rfl
  ·by_cases K:y < x
   ·rw[if_pos K,if_neg I,if_pos K]
   ·rw[if_neg K,if_neg I,if_neg I,if_neg K];exact yV a b
theorem zY:∀{a b c:List Int},cmpL a b < 0->cmpL b c < 0->cmpL a c < 0
 |[],[],_,h,_=>by simp[cmpL]at h
 |[],_::_,[],_,h=>by simp[cmpL]at h
 |[],_::_,_::_,_,_=>by simp[cmpL]
 |_::_,[],_,h,_=>by simp[cmpL]at h
 |_::_,_::_,[],_,h=>by simp[cmpL]at h
 |x::a,y::b,z::c,h1,h2=>by
  simp only[cmpL]at h1 h2 ⊢;by_cases O:x < y
  ·by_cases I:y < z
   ·rw[if_pos Oo];decide
   ·rw[if_neg I]at h2;by_cases K:z < y
    ·rw[if_pos K]at h2;omega
    ·rw[if_pos Oo];decide
  ·rw[if_neg O]at h1;by_cases I:y < x
   ·rw[if_pos I]at h1;omega
   ·rw[if_neg I]at h1;by_cases K:y < z
    ·rw[if_pos Oo];decide
    ·rw[if_neg K]at h2;by_cases M:z < y
     ·rw[if_pos M]at h2;omega
     ·rw[if_neg M]at h2;rw[if_neg Oo,if_neg Oo];exact zY h1 h2
def SL(l:List (List Int)):Prop:=l.Pairwise λa b=>cmpL a b < 0
theorem SL.uniq:∀{a b:List (List Int)},SL a->SL b->(∀x,x∈a↔x∈b)->a=b
 |[],[],_,_,_=>rfl
 |[],y::b,_,_,h=>by have:=(h y).2 (List.mem_cons_self ..);cases this
 |x::a,[],_,_,h=>by have:=(h x).1 (List.mem_cons_self ..);cases this
 |x::a,y::b,ha,hb,h=>by
  unfold SL at ha hb;rw[List.pairwise_cons]at ha hb
  have K:x=y:=by
   rcases List.mem_cons.1 ((h x).1 (List.mem_cons_self ..))with e|e
   ·exact e
   ·rcases List.mem_cons.1 ((h y).2 (List.mem_cons_self ..))with M|M
    ·exact M.symm
    ·have O:=hb.1 x e;have U:=ha.1 y M;have:=zY O U;rw[zp]at this;omega
  subst K;rw[SL.uniq (a:=a) (b:=b) ha.2 hb.2 λz=>?_];constructor
  ·intro I;rcases List.mem_cons.1 ((h z).1 (mC _ I))with e|e
   ·subst e;have:=ha.1 _ I;rw[zp]at this;omega
   ·exact e
  ·intro I;rcases List.mem_cons.1 ((h z).2 (mC _ I))with e|e
   ·subst e;have:=hb.1 _ I;rw[zp]at this;omega
   ·exact e
def mrgX(x:List Int)(f:List (List Int)->List (List Int))(c:List (List Int)):List (List Int)->List (List Int)
 |[]=>c
 |y::b=>if cmpL x y<0 then x::f (y::b) else if 0<cmpL x y then y::mrgX x f c b else x::f b
def mrg:List (List Int)->List (List Int)->List (List Int)
 |[]=>λb=>b
 |x::a=>mrgX x (mrg a) (x::a)
theorem xV(b:List (List Int)):mrg [] b=b:=rfl
theorem xe(a:List (List Int)):mrg a []=a:=by cases a <;> rfl
theorem XN{x y:List Int}{a:List (List Int)}(h:cmpL x y < 0):mrg (x::a) (y::b)=x::mrg a (y::b):=if_pos h
theorem XO{x y:List Int}{a:List (List Int)}(h:0 < cmpL x y):mrg (x::a) (y::b)=y::mrg (x::a) b:=(if_neg Oo).trans (if_pos h)
theorem XP{x y:List Int}{a:List (List Int)}(I:¬cmpL x y < 0)(K:¬0 < cmpL x y):mrg (x::a) (y::b)=x::mrg a b:=(if_neg I).trans (if_neg K)
theorem vG(z:List Int):∀(n:Nat) (a b:List (List Int)),a.length+b.length<=n->(z∈mrg a b↔z∈a∨z∈b)
 |n,[],b,_=>by rw[xV];simp
 |n,x::a,[],_=>by rw[xe];simp
 |n+1,x::a,y::b,h=>by
  simp only[List.length_cons]at h;by_cases I:cmpL x y < 0
  ·rw[XN I,List.mem_cons,vG z n a (y::b) (by simp only[List.length_cons];omega),List.mem_cons,List.mem_cons,or_assoc]
  ·by_cases K:0 < cmpL x y
   ·rw[XO K,List.mem_cons,vG z n (x::a) b (by simp only[List.length_cons];omega),List.mem_cons,List.mem_cons];constructor
    ·rintro (h|(h|h)|h)
     ·exact Or.inr (Or.inl h)
     ·exact Or.inl (Or.inl h)
     ·exact Or.inl (Or.inr h)
     ·exact Or.inr (Or.inr h)
    ·rintro ((h|h)|(h|h))
     ·exact Or.inr (Or.inl (Or.inl h))
     ·exact Or.inr (Or.inl (Or.inr h))
     ·exact Or.inl h
     ·exact Or.inr (Or.inr h)
   ·have e:x=y:=cmpL_eq Oo;subst e;rw[XP I K,List.mem_cons,vG z n a b Oo,List.mem_cons,List.mem_cons];constructor
    ·rintro (h|h|h)
     ·exact Or.inl (Or.inl h)
     ·exact Or.inl (Or.inr h)
     ·exact Or.inr (Or.inr h)
    ·rintro ((h|h)|(h|h))
     ·exact Or.inl h
     ·exact Or.inr (Or.inl h)
     ·exact Or.inl h
     ·exact Or.inr (Or.inr h)
 |0,x::a,y::b,h=>by simp only[List.length_cons]at h;omega
theorem SL.mrg:∀(n:Nat) (a b:List (List Int)),a.length+b.length<=n->SL a->SL b->SL (mrg a b)
 |n,[],b,_,_,hb=>by rw[xV];exact hb
 |n,x::a,[],_,ha,_=>by rw[xe];exact ha
 |0,x::a,y::b,h,_,_=>by simp only[List.length_cons]at h;omega
 |n+1,x::a,y::b,h,ha,hb=>by
  simp only[List.length_cons]at h;have I:=List.pairwise_cons.1 ha;have K:=List.pairwise_cons.1 hb;by_cases O:cmpL x y < 0
  ·rw[XN O];refine List.pairwise_cons.2 ⟨λz M=>?_,SL.mrg n a (y::b) (by simp only[List.length_cons];omega) I.2 hb⟩;rcases (vG z _ a (y::b) (bK _)).1 M with h|h
   ·exact I.1 z h
   ·rcases List.mem_cons.1 h with rfl|h
    ·exact O
    ·exact zY O (K.1 z h)
  ·by_cases U:0 < cmpL x y
   ·have V:cmpL y x < 0:=by rw[yV];omega
    rw[XO U];refine List.pairwise_cons.2 ⟨λz M=>?_,SL.mrg n (x::a) b (by simp only[List.length_cons];omega) ha K.2⟩;rcases (vG z _ (x::a) b (bK _)).1 M with h|h
    ·rcases List.mem_cons.1 h with rfl|h
     ·exact V
     ·exact zY V (I.1 z h)
    ·exact K.1 z h
   ·have e:x=y:=cmpL_eq Oo;subst e;rw[XP O U];refine List.pairwise_cons.2 ⟨λz M=>?_,SL.mrg n a b Oo I.2 K.2⟩;rcases (vG z _ a b (bK _)).1 M with h|h
    ·exact I.1 z h
    ·exact K.1 z h
def srt:List (List Int)->List (List Int):=WellFounded.fix (measure List.length).wf λl f=>if h:l.length < 2 then l else mrg (f (l.take (l.length / 2)) (by show List.length _<List.length _;simp only[List.length_take];omega)) (f (l.drop (l.length / 2)) (by show List.length _<List.length _;simp only[List.length_drop];omega))
theorem vk(h:l.length < 2):srt l=l:=by rw[srt,WellFounded.fix_eq,dif_pos h]
theorem ZW(h:¬l.length < 2):srt l=mrg (srt (l.take (l.length / 2))) (srt (l.drop (l.length / 2))):=by rw[srt,WellFounded.fix_eq,dif_neg h]
theorem yp:∀(n:Nat) (l:List (List Int)),l.length<=n->SL (srt l)/\∀z,z∈srt l↔z∈l
 |n,l,h=>by
  by_cases I:l.length < 2
  ·rw[vk I];refine⟨?_,λz=>Iff.rfl⟩;match l,I with
   |[],_=>exact List.Pairwise.nil
   |[x],_=>exact List.pairwise_singleton _ _
  ·rw[ZW I];match n with
   |0=>omega
   |n+1=>
    obtain⟨a1,K⟩:=yp n (l.take (l.length / 2)) (by rw[bZ];omega);obtain⟨b1,b2⟩:=yp n (l.drop (l.length / 2)) (by rw[List.length_drop];omega);refine⟨SL.mrg _ _ _ (bK _) a1 b1,λz=>?_⟩;rw[vG z _ _ _ (bK _),K,b2,<-List.mem_append,tD]
theorem yJ:∀(n:Nat) (a b:List (List Int)),a.length+b.length<=n->(mrg a b).length<=a.length+b.length
 |n,[],b,_=>by rw[xV];simp
 |n,x::a,[],_=>by rw[xe];simp
 |0,x::a,y::b,h=>by simp only[List.length_cons]at h;omega
 |n+1,x::a,y::b,h=>by
  simp only[List.length_cons]at h;by_cases I:cmpL x y < 0
  ·have:=yJ n a (y::b) (by simp only[List.length_cons];omega);rw[XN I];simp only[List.length_cons]at this ⊢;omega
  ·by_cases K:0 < cmpL x y
   ·have:=yJ n (x::a) b (by simp only[List.length_cons];omega);rw[XO K];simp only[List.length_cons]at this ⊢;omega
   ·have:=yJ n a b Oo;rw[XP I K];simp only[List.length_cons];omega
theorem uM:∀(n:Nat) (l:List (List Int)),l.length<=n->(srt l).length<=l.length
 |n,l,h=>by
  by_cases I:l.length < 2
  ·rw[vk I];exact bK _
  ·rw[ZW I];match n with
   |0=>omega
   |n+1=>
    have a1:=uM n (l.take (l.length / 2)) (by rw[bZ];omega);have b1:=uM n (l.drop (l.length / 2)) (by rw[List.length_drop];omega);have c1:=yJ _ (srt (l.take (l.length / 2))) (srt (l.drop (l.length / 2))) (bK _);rw[bZ]at a1;rw[List.length_drop]at b1;omega
def cpt:List (List Int)->List (List Int)
 |[]=>[]
 |[x]=>[x]
 |x::y::l=>if x=y then cpt (y::l) else x::cpt (y::l)
theorem Qk(z:List Int):∀l:List (List Int),z∈cpt l↔z∈l
 |[]=>Iff.rfl
 |[x]=>Iff.rfl
 |x::y::l=>by
  rw[cpt];split
  ·rename_i e;subst e;rw[Qk z (x::l)];simp
  ·rw[List.mem_cons,Qk z (y::l),List.mem_cons (a:=z) (b:=x)]
theorem SL.cpt:∀l:List (List Int),(l.Pairwise λa b=>¬cmpL b a < 0)->SL (cpt l)
 |[],_=>List.Pairwise.nil
 |[x],_=>List.pairwise_singleton _ _
 |x::y::l,h=>by
  have I:=List.pairwise_cons.1 h;rw[Go.Proofs.YtkaipapdlnojiaaGreat.cpt];split
  ·exact SL.cpt (y::l) I.2
  ·rename_i ne;refine List.pairwise_cons.2 ⟨λz M=>?_,SL.cpt (y::l) I.2⟩;rw[Qk]at M;have U:=I.1 z M;have V:=I.1 y (List.mem_cons_self ..)
   have hy:¬cmpL z y < 0:=by
    rcases List.mem_cons.1 M with rfl|O
    ·rw[zp];omega
    ·exact(List.pairwise_cons.1 I.2).1 z O
   have K:cmpL x y < 0:=by
    have e1:=yV x y;rcases Int.lt_trichotomy (cmpL x y) 0 with h|h|h
    ·exact h
    ·exact absurd (cmpL_eq h) ne
    ·omega
   have e2:=yV y z;rcases Int.lt_trichotomy (cmpL y z) 0 with h|h|h
   ·exact zY K h
   ·rw[<-cmpL_eq h];exact K
   ·omega
theorem qE1{I:List (List Int)}(hs:I.Pairwise λa b=>¬cmpL b a < 0)(K:∀z,z∈I↔z∈l):cpt I=srt l:=by
 obtain⟨a,b⟩:=yp _ l (bK _);exact SL.uniq (SL.cpt I hs) a λz=>by rw[Qk,b,K]
theorem uY(x y:List Int)(l:List (List Int)):cpt (x::y::l)=if x=y then cpt (y::l) else x::cpt (y::l):=by rw[cpt]
theorem Zx(x:List Int):cpt [x]=[x]:=by rw[cpt]
theorem kD:∀(l:List (List Int)) (y z:List Int),cpt (l++[y,z])=if y=z then cpt (l++[y]) else cpt (l++[y])++[z]
 |[],y,z=>by
  show cpt [y,z]=if y=z then cpt [y] else cpt [y]++[z]
  rw[uY,Zx,Zx];by_cases h:y=z
  ·rw[if_pos h,if_pos h,h]
  ·rw[if_neg h,if_neg h];rfl
 |[x],y,z=>by
  have M:cpt [y,z]=if y=z then cpt [y] else cpt [y]++[z]:=kD [] y z
  show cpt (x::y::[z])=if y=z then cpt [x,y] else cpt [x,y]++[z]
  rw[uY x y [z],M,uY x y []];by_cases I:x=y
  ·rw[if_pos I,if_pos I]
  ·rw[if_neg I,if_neg I];by_cases K:y=z
   ·rw[if_pos K,if_pos K]
   ·rw[if_neg K,if_neg K];rfl
 |x::a::l,y,z=>by
  have M:cpt (a::(l++[y,z]))=if y=z then cpt (a::(l++[y])) else cpt (a::(l++[y]))++[z]:=kD (a::l) y z
  show cpt (x::a::(l++[y,z]))=if y=z then cpt (x::a::(l++[y])) else cpt (x::a::(l++[y]))++[z]
  rw[uY,M,uY];by_cases I:x=a
  ·rw[if_pos I,if_pos I]
  ·rw[if_neg I,if_neg I];by_cases K:y=z
   ·rw[if_pos K,if_pos K]
   ·rw[if_neg K,if_neg K];rfl
theorem ZE(I:j+1 < ls.length):ls.take (j+2)=ls.take j++[ls.getD j [],ls.getD (j+1) []]/\ls.take (j+1)=ls.take j++[ls.getD j []]:=by
 have M:ls.getD j []=ls[j]:=by rw[gD,bC Oo];rfl
 have O:ls.getD (j+1) []=ls[j+1]:=by rw[gD,bC I];rfl
 rw[M,O];have K:ls.take (j+1)=ls.take j++[ls[j]]:=(List.take_append_getElem Oo).symm;have U:ls.take (j+2)=ls.take (j+1)++[ls[j+1]]:=(List.take_append_getElem I).symm;exact⟨by rw[U,K,List.append_assoc];rfl,K⟩
theorem Kz(I:j+1 < ls.length)(h:ls.getD j []=ls.getD (j+1) []):cpt (ls.take (j+2))=cpt (ls.take (j+1)):=by
 obtain⟨a,b⟩:=ZE I;rw[a,b,kD,if_pos h]
theorem UQ(I:j+1 < ls.length)(h:¬ls.getD j []=ls.getD (j+1) []):cpt (ls.take (j+2))=cpt (ls.take (j+1))++[ls.getD (j+1) []]:=by
 obtain⟨a,b⟩:=ZE I;rw[a,b,kD,if_neg h]
theorem Xd{ls:List (List Int)}:∀j,j < ls.length->(∀i,i < j->¬ls.getD i []=ls.getD (i+1) [])->cpt (ls.take (j+1))=ls.take (j+1)
 |0,h,_=>by
  match ls,h with
  |x::l,_=>rfl
 |j+1,h,hne=>by
  rw[UQ h (hne j Oo),Xd j Oo (λi hi=>hne i Oo)];obtain⟨a,b⟩:=ZE h;rw[a,b,List.append_assoc];rfl
theorem JZ(h:p++[y] <+:s):p.length < s.length/\(∀i,i < p.length->s.getD i 0=p.getD i 0)/\s.getD p.length 0=y:=by
 obtain⟨t,rfl⟩:=h;refine⟨Ss,λi hi=>?_,?_⟩
 ·rw[gD,gD,List.append_assoc,aL hi]
 ·rw[gD,List.append_assoc,bX (bK _),Nat.sub_self];rfl
theorem qCd(K:p++[y] <+:s)(M:p++[x] <+:r)(h:cmpL s r < 0):y<=x:=by
 obtain⟨a1,O,U⟩:=JZ K;obtain⟨b1,b2,b3⟩:=JZ M;rcases Int.lt_or_le x y with I|I
 ·have:=XW (a:=s) (b:=r) a1 b1 (λi hi=>by rw[O i hi,b2 i hi]) (by rw[U,b3];exact I);omega
 ·exact I
theorem Ja{l:List Int}:p <+:l++[a]↔p=l++[a]∨p <+:l:=by
 rw[List.prefix_concat_iff]
theorem zA{i:Nat}(h:i < r.length):r.take (i+1)=r.take i++[r.getD i 0]:=by
 rw[tA,bC h,gD,bC h];rfl
theorem kS(h:p++[x]=q++[y]):p=q/\x=y:=by
 have:=List.append_inj' h rfl;exact⟨this.1,by simpa using this.2⟩
structure TM(rs:List (List Int))(D:List Int->Prop)(N:List Int->List Int):Prop where
 dom:∀p,D p↔p=[]∨∃r∈rs,p <+:r
 mem:∀p,D p->∀x,x∈N p↔D (p++[x])
 asc:∀p,D p->(N p).Pairwise (·< ·)
theorem TM.none:TM [] (λp=>p=[]) (λ_=>[]):=
 ⟨λp=>Ss,λp _ x=>Ss,λp _=>List.Pairwise.nil⟩
theorem TM.pre{rs:List (List Int)}{D:List Int->Prop}{N:List Int->List Int}(h:TM rs D N)(hq:D q)(hp:p <+:q):D p:=by
 rw[h.dom]at hq ⊢;rcases hq with rfl|⟨r,hr,I⟩
 ·exact Or.inl (List.prefix_nil.1 hp)
 ·exact Or.inr ⟨r,hr,hp.trans I⟩
section
variable {rs:List (List Int)} {r:List Int} {i:Nat} {D:List Int->Prop} {N:List Int->List Int}
theorem TM.begin(h:TM rs D N):TM (rs++[r.take 0]) D N:=
 ⟨λp=>by
  rw[h.dom];constructor
  ·rintro (I|⟨s,hs,I⟩)
   ·exact Or.inl I
   ·exact Or.inr ⟨s,List.mem_append_left _ hs,I⟩
  ·rintro (I|⟨s,hs,I⟩)
   ·exact Or.inl I
   ·rcases List.mem_append.1 hs with K|K
    ·exact Or.inr ⟨s,K,I⟩
    ·simp at K;subst K;exact Or.inl (List.prefix_nil.1 I),h.mem,h.asc⟩
theorem TM.here(h:TM (rs++[r.take i]) D N):D (r.take i):=(h.dom _).2 (Or.inr ⟨r.take i,Ss,List.prefix_refl _⟩)
theorem TM.le(h:TM (rs++[r.take i]) D N)(hi:i < r.length)(hs:∀s∈rs,cmpL s r < 0):∀y∈N (r.take i),y<=r.getD i 0:=λy O=>by
 rw[h.mem _ h.here,h.dom]at O;rcases O with I|⟨s,M,I⟩
 ·simp at I
 ·rcases List.mem_append.1 M with K|K
  ·refine qCd I (r:=r) ?_ (hs s K);rw[<-zA hi];exact List.take_prefix _ _
  ·simp at K;subst K;have:=I.length_le;simp at this;omega
theorem Jb(h:TM (rs++[r.take i]) D N)(hi:i < r.length)(p:List Int):(p=[]∨∃s∈rs++[r.take (i+1)],p <+:s)↔D p∨p=r.take i++[r.getD i 0]:=by
 rw[h.dom];constructor
 ·rintro (I|⟨s,hs,I⟩)
  ·exact Or.inl (Or.inl I)
  ·rcases List.mem_append.1 hs with K|K
   ·exact Or.inl (Or.inr ⟨s,List.mem_append_left _ K,I⟩)
   ·simp only[List.mem_singleton]at K;subst K;rw[zA hi,Ja]at I;rcases I with I|I
    ·exact Or.inr I
    ·exact Or.inl (Or.inr ⟨_,List.mem_append_right _ (List.mem_singleton.2 rfl),I⟩)
 ·rintro ((I|⟨s,hs,I⟩)|I)
  ·exact Or.inl I
  ·rcases List.mem_append.1 hs with K|K
   ·exact Or.inr ⟨s,List.mem_append_left _ K,I⟩
   ·simp only[List.mem_singleton]at K;subst K;refine Or.inr ⟨r.take (i+1),List.mem_append_right _ (List.mem_singleton.2 rfl),?_⟩;rw[zA hi,Ja];exact Or.inr I
  ·refine Or.inr ⟨r.take (i+1),List.mem_append_right _ (List.mem_singleton.2 rfl),?_⟩;rw[zA hi,I];exact List.prefix_refl _
theorem TM.hit(h:TM (rs++[r.take i]) D N)(hi:i < r.length)(K:r.getD i 0∈N (r.take i)):TM (rs++[r.take (i+1)]) D N:=
 ⟨λp=>by
  rw[Jb h hi];constructor
  ·exact Or.inl
  ·rintro (I|I)
   ·exact I
   ·rw[I];exact(h.mem _ h.here _).1 K,h.mem,h.asc⟩
def qDp(D:List Int->Prop)(q:List Int):List Int->Prop:=λp=>D p∨p=q
def uw(N:List Int->List Int)(p:List Int)(x:Int):List Int->List Int:=λq=>if q=p then N p++[x] else if q=p++[x] then [] else N q
theorem Ql(p:List Int)(x:Int):p++[x]≠p:=λe=>by have:=congrArg List.length e;simp at this
theorem TM.miss(h:TM (rs++[r.take i]) D N)(hi:i < r.length)(hs:∀s∈rs,cmpL s r < 0)(hx:r.getD i 0∉N (r.take i)):
 TM (rs++[r.take (i+1)]) (qDp D (r.take i++[r.getD i 0])) (uw N (r.take i) (r.getD i 0)):=by
 have hle:=h.le hi hs;have U:=h.here;have V:¬D (r.take i++[r.getD i 0]):=λhd=>hx ((h.mem _ U _).2 hd);have O:=Jb h hi;generalize r.take (i+1)=r1 at *;generalize r.take i=p0 at *;generalize r.getD i 0=x at *;refine⟨λp=>(O p).symm,λq hq y=>?_,λq hq=>?_⟩
 ·unfold uw qDp;by_cases M:q=p0
  ·subst M;rw[if_pos rfl,List.mem_append,List.mem_singleton,h.mem _ U];constructor
   ·rintro (I|I)
    ·exact Or.inl I
    ·exact Or.inr (by rw[I])
   ·rintro (I|I)
    ·exact Or.inl I
    ·exact Or.inr (kS I).2
  ·rw[if_neg M];by_cases K:q=p0++[x]
   ·subst K;rw[if_pos rfl];constructor
    ·intro I;cases I
    ·rintro (I|I)
     ·exact absurd (h.pre I (List.prefix_append _ _)) V
     ·exact absurd I (Ql _ _)
   ·rw[if_neg K,h.mem _ (hq.resolve_right K)];constructor
    ·exact Or.inl
    ·rintro (I|I)
     ·exact I
     ·exact absurd (kS I).1 M
 ·unfold uw;by_cases M:q=p0
  ·subst M;rw[if_pos rfl,List.pairwise_append];refine⟨h.asc _ U,List.pairwise_singleton _ _,λy hy z hz=>?_⟩;rw[List.mem_singleton]at hz;subst hz;have:=hle y hy;rcases Int.lt_or_eq_of_le this with I|I
   ·exact I
   ·subst I;exact absurd hy hx
  ·rw[if_neg M];by_cases K:q=p0++[x]
   ·rw[if_pos K];exact List.Pairwise.nil
   ·rw[if_neg K];exact h.asc _ (hq.resolve_right K)
theorem TM.done(h:TM (rs++[r.take r.length]) D N):TM (rs++[r]) D N:=by rw[tL]at h;exact h
end
theorem qE6{l:List Int}(K:l.Pairwise (·< ·))(I:x∈l)(hle:∀y∈l,y<=x):0 < l.length/\l.getD (l.length - 1) 0=x:=by
 have M:0 < l.length:=List.length_pos_of_mem I;refine⟨M,?_⟩;obtain⟨j,O,e⟩:=gO I;have hl:l.getD (l.length - 1) 0=l[l.length - 1]' Oo:=by rw[gD,bC Oo];rfl
 have V:=hle _ (gM (h:=(by omega:l.length - 1 < l.length)));rw[hl];by_cases U:j=l.length - 1
 ·subst U;exact e
 ·have:=List.pairwise_iff_getElem.1 K j (l.length - 1) O Oo Oo;omega
theorem qDq{l:List Int}(I:x∉l)(K:0 < l.length):l.getD (l.length - 1) 0≠x:=λe=>I (by
 rw[<-e,gD,bC Oo];exact gM _)
end Go.Proofs.YtkaipapdlnojiaaGreat
