import Derived.Test.YtkaipapdlnojiaaGreatWq21
set_option maxHeartbeats 40000000
set_option maxRecDepth 1000000
namespace Go.Proofs.YtkaipapdlnojiaaGreat
open Go.RowKit
variable {xs:List Value}{B g n:Nat}{v:Value}{W W':World}
def qFa:Nat->Value:=f5 (.bool false) (.int .i64 0) (.int .i64 0) (.slice none 0 0) (.slice none 0 0)
theorem QC{w:World}{s:Nat}{e:TypeId}(h:w.ownsRow B e s v n xs):∃a cap,v=.slice a n cap:=by
 rcases h.2 with ⟨rfl,I⟩|⟨g,cap,cur,rfl,_⟩
 ·exact⟨none,0,by rw[I]⟩
 ·exact⟨_,cap,rfl⟩
theorem UO{cp:Nat}{u:Value}{qs:List (Value×Dem)}(h:DL W B u qs)(I:∀g,u.ownBlock=some g->v.ownBlock≠some g)(K:v.ownBlock=some g∨W.heap.size<=g):∀k,u.ownBlock=some k->(Value.slice (some ⟨g,0,none⟩) n cp).ownBlock≠some k:=by
 intro k M e;have U:=jx e;subst U;rcases K with O|O
 ·exact I g M O
 ·have:=(h.own.lt g M).2;omega
theorem qFb(W:World)(k:Int)(x y:Value):∀j u,[.slice (some ⟨W.heap.size,0,none⟩) 1 1,x,y][j]?=some u->((W.alloc (.cells #[.int .i64 k] 3)).alloc (.cells #[.slice (some ⟨W.heap.size,0,none⟩) 1 1,x,y] 53)).cell? ((⟨W.heap.size+1,0,none⟩:Addr).add j)=some u:=by
 have:=vX (W.alloc (.cells #[.int .i64 k] 3)) (.slice (some ⟨W.heap.size,0,none⟩) 1 1) x y 53;rw[show(W.alloc (.cells #[.int .i64 k] 3)).heap.size=W.heap.size+1 by simp]at this;exact this
structure ZC(W:World)(g:Nat):Prop where
 blk:W.heap[g]?=some (.cells #[.bool false,.int .i64 0,.int .i64 0,.slice none 0 0,.slice none 0 0] 36 (0,0))
 arr:ArrAt W g 5 qFa
theorem ZC.typ(h:ZC W g):∃cur,W.heap[g]?=some (.cells cur 36 (0,0)):=⟨_,h.blk⟩
theorem ZC.move(h:ZC W g)(e:W'.heap[g]?=W.heap[g]?):ZC W' g:=⟨e.trans h.blk,h.arr.move e⟩
theorem ZC.lt(h:ZC W g):g < W.heap.size:=zm h.typ
theorem ZC.below(h:ZC W g)(hb:Bl W W'):ZC W' g:=h.move (hb.block g h.lt)
theorem ZC.alloc(h:ZC W g)(o:Obj):ZC (W.alloc o) g:=h.move (Below.heap_alloc _ _ _ h.lt)
theorem ZC.grow{w3:World}{o:Obj}(h:ZC W g)(I:W.ownsRow B 53 3 v n xs)(K:(W.alloc o).grownBy w3 v.ownBlock):ZC w3 g:=h.move (qV K h.lt (own_ne I h.typ Dd))
theorem UP{x:Nat->Rat}(h:IR W v (prs n x))(hz:ZC W g)(a b c d e:Value):IR (((((W.setCell ⟨g,0,none⟩ a).setCell ⟨g,1,none⟩ b).setCell ⟨g,2,none⟩ c).setCell ⟨g,3,none⟩ d).setCell ⟨g,4,none⟩ e) v (prs n x):=by
 obtain⟨ad,cap,ev,O⟩:=h;refine⟨ad,cap,ev,?_⟩;rcases O with h0|⟨bl,o,ea,O⟩
 ·exact Or.inl h0
 ·by_cases hn:n=0
  ·exact Or.inl (by rw[qR];exact hn)
  ·have I:bl≠g:=by
    rintro rfl;obtain⟨K,M⟩:=O 0 (by rw[qR];omega);rw[vJ Oo]at K M;rw[Nat.zero_mul,Nat.add_zero,cell_of_row _ _ _ _ _ _ hz.blk]at K M;match o,K,M with
    |0,K,_=>simp at K
    |1,_,M=>
     have:=(x 0).den_nz;simp at M;omega
    |2,_,M=>simp at M
    |3,K,_=>simp at K
    |4,K,_=>simp at K
    |o+5,K,_=>simp at K
   have U:∀i,(((((W.setCell ⟨g,0,none⟩ a).setCell ⟨g,1,none⟩ b).setCell ⟨g,2,none⟩ c).setCell ⟨g,3,none⟩ d).setCell ⟨g,4,none⟩ e).cell? ⟨bl,i,none⟩=W.cell? ⟨bl,i,none⟩:=λi=>
    bF (w:=W) (a:=⟨bl,i,none⟩) (by rw[bE _ _ _ _ I,bE _ _ _ _ I,bE _ _ _ _ I,bE _ _ _ _ I,bE _ _ _ _ I])
   exact Or.inr ⟨bl,o,ea,λj V=>⟨(U _).trans (O j V).1,(U _).trans (O j V).2⟩⟩
def qF6(bag:List Int)(es:List (List Int))(x y:Nat->Rat)(e:Ending)(w':World):Prop:=
 ((qL bag&&qj es&&ql bag es)=false/\e=.returned (.agg #[.bool false,.int .i64 0,.int .i64 0,.slice none 0 0,.slice none 0 0]))∨
 ((qL bag&&qj es&&ql bag es)=true/\∃vW vD,e=.returned (.agg #[.bool true,.int .i64 (Cov.sm es.length x).num,.int .i64 (Cov.sm es.length x).den,vW,vD])/\IR w' vW (prs es.length x)/\IR w' vD (prs bag.length y))
theorem Xc(w:World)(vb ve:Value)(bag:List Int)(es:List (List Int))(x y:Nat->Rat)(hb:IS w vb bag)(h:ISS w ve es)(p6:bag.length<=1099511627776)(hl:zS es)
 (g9:(qL bag&&qj es&&ql bag es)=true->qY bag.length es.length (inc (qG bag es)) x/\ux es.length bag.length (inc (qc bag es)) y/\Parts es.length x):
 Cl 5 #[vb,ve] w λe w'=>qF6 bag es x y e w'/\Bl w w':=by
 obtain⟨i0,hi,p7,p8,p9⟩:=info_parts Tryz.infoInt;obtain⟨iD,hj,k4,k5,k7⟩:=info_parts Tryz.infoDem;have v4:=hid hb;have v5:=hid h;have m7:=hid g9;obtain⟨aB,cB,rfl,q3⟩:=hb;obtain⟨aE,cE,rfl,-⟩:=h;obtain⟨O,k8⟩:∃O,O=bag.length:=⟨_,rfl⟩;obtain⟨m,hm⟩:∃m,m=es.length:=⟨_,rfl⟩;have a8:=hid k8;have HM:=hid hm;have x0:m<=1099511627776:=by rw[hm];exact hl.1
 have m8:=hid hl.2
 have q4:Hid (∀j,j < O->∃b o,aB=some ⟨b,o,none⟩/\w.cell? ⟨b,o+j,none⟩=some (.int .i64 (bag.getD j 0))):=hid (λj hj=>by
  rcases q3 with h0|⟨b,o,e,hc⟩
  ·omega
  ·exact⟨b,o,e,hc j Oo⟩)
 have m9:Hid (∀j,j < m->∃b o u,aE=some ⟨b,o,none⟩/\w.cell? ⟨b,o+j,none⟩=some u/\IS w u (es.getD j [])):=hid (λj hj=>v5.out.get rfl Oo);have KB:Hid (∀W,Bl w W->Cl 15 #[.slice aB O cB,.int .i64 6] W λe w'=>e=.returned (.bool (qL bag))/\w'=W):=hid (λW hW=>by rw[k8];exact uC W _ bag (v4.out.below hW) p6);have hA:Bl w (w.alloc (.cells #[.bool false,.int .i64 0,.int .i64 0,.slice none 0 0,.slice none 0 0] 36)):=(bM _ _).alloc (bK _) _;have hs:w.heap.size < (w.alloc (.cells #[.bool false,.int .i64 0,.int .i64 0,.slice none 0 0,.slice none 0 0] 36)).heap.size:=Ss;have hc:ZC (w.alloc (.cells #[.bool false,.int .i64 0,.int .i64 0,.slice none 0 0,.slice none 0 0] 36)) w.heap.size:=⟨heap_alloc_new _ _,qz w 5 qFa 36⟩;rw[<-k8]at p6 ⊢;rw[<-hm];clear q3 g9 hl k8 hm;go_enter Tryz.func5,Tryz.ntmps5
 go_upto_region 1 with fail
 generalize w.alloc (.cells #[.bool false,.int .i64 0,.int .i64 0,.slice none 0 0,.slice none 0 0] 36)=W0 at *;have HA:=hid hA;have HC:=hid hc;clear hA hc;go_cut [5] (λv wx=>v=.bool (qL bag&&decide (m<=7))/\wx=W0)
 case first=>
  cases h1:qL bag
  ·rw[h1]at KB;go_wp2_with (first|(go_at_call 15;refine(KB.out _ HA.out).mono ?_;rintro e w' ⟨rfl,f8⟩;subst w'))
   go_meet;exact⟨by rw[h1];rfl,rfl⟩
  ·rw[h1]at KB;by_cases h7:m<=7
   ·have i7:(m:Int)<=7:=Oo;go_wp2_with (first|(go_at_call 15;refine(KB.out _ HA.out).mono ?_;rintro e w' ⟨rfl,f8⟩;subst w'))
    go_meet;exact⟨by rw[h1,decide_eq_true h7];rfl,rfl⟩
   ·have i7:¬((m:Int)<=7):=Oo;go_wp2_with (first|(go_at_call 15;refine(KB.out _ HA.out).mono ?_;rintro e w' ⟨rfl,f8⟩;subst w'))
    go_meet;exact⟨by rw[h1,Bool.true_and];congr 1;rw[decide_eq_decide];omega,rfl⟩
 case rest=>
 obtain⟨rfl,q6⟩:=hcut;obtain rfl:W0=wc:=q6.symm;clear q6 KB;obtain⟨r0,n3⟩:∃r0,r0=(qL bag&&decide (m<=7)):=⟨_,rfl⟩;rw[<-n3];have q7:=hid n3;clear n3;go_wp2;go_loopw [5,32] (λv t wr=>∃(k:Nat) (rb:Bool),k<=m/\t=.int .i64 k/\v=.bool rb/\Hid (wr=W0/\rb=(r0&&(es.take k).all qL))) (λ_ t _=>m - (intOf t).toNat)
 case atStart=>exact⟨0,r0,nZ _,rfl,rfl,hid ⟨rfl,Ss⟩⟩
 case round=>
  obtain⟨k,rb,hk,rfl,rfl,hH⟩:=hrel;obtain rfl:W0=wr:=hH.out.1.symm;have k9:=hid hH.out.2;clear hH;by_cases h3:k < m
  ·have i1:(k:Int) < (m:Int):=Oo;obtain⟨b,o,u,rfl,e1,hu⟩:=m9.out k h3;have c1:=(HA.out.cell (p:=⟨b,o+k,none⟩) (bL w _ e1)).trans e1;have c7:k < es.length:=by rw[<-HM.out];exact h3
   have HT:=hid (VW es qL c7);have KS:Hid (Cl 15 #[u,.int .i64 6] W0 λe w'=>e=.returned (.bool (qL (es.getD k [])))/\w'=W0):=hid (uC W0 u _ (hu.below HA.out) (m8.out k));obtain⟨sb,q8⟩:∃sb,sb=qL (es.getD k []):=⟨_,rfl⟩;rw[<-q8]at KS HT;clear q8 c7 e1 hu;cases rb
   ·go_wp2;go_roundw
    case rel=>exact⟨k+1,false,Oo,Gg,rfl,hid ⟨by trivial,by rw[HT.out,<-Bool.and_assoc,<-k9.out];rfl⟩⟩
    case measure=>simp[intOf];omega
   ·go_wp2_with (first|(go_at_call 15;refine KS.out.mono ?_;rintro e w' ⟨rfl,f8⟩;subst w'))
    go_roundw
    case rel=>exact⟨k+1,sb,Oo,Gg,rfl,hid ⟨by trivial,by rw[HT.out,<-Bool.and_assoc,<-k9.out];rfl⟩⟩
    case measure=>simp[intOf];omega
  ·obtain rfl:m=k:=Oo;have i1:¬((m:Int) < (m:Int)):=Oo
   have n4:Hid (rb=(qL bag&&qj es)):=hid (by
    rw[k9.out,q7.out,HM.out,tL];unfold qj;rw[Bool.and_assoc])
   clear k9;cases rb
   ·obtain⟨c0,c1,c2,c3,c4⟩:=ArrAt.five HC.out.arr;obtain⟨d0,d1,d2,d3,d4⟩:=HC.out.arr.frees;have n5:Hid ((qL bag&&qj es&&ql bag es)=false):=hid (by rw[<-n4.out];rfl);have HZ:=hid (ArrAt.five_set HC.out.arr (.bool false) (.int .i64 0) (.int .i64 0) (.slice none 0 0) (.slice none 0 0));go_wp2;obtain⟨r0,r1,r2,r3,r4⟩:=HZ.out.five;refine bodyPost_ret (v:=.agg #[.bool false,.int .i64 0,.int .i64 0,.slice none 0 0,.slice none 0 0]) (by simp[results,Tryz.results5,go_sem,r0,r1,r2,r3,r4]) rfl ⟨Or.inl ⟨n5.out,rfl⟩,?_⟩;exact((((HA.out.setCell (bK _) _).setCell (bK _) _).setCell (bK _) _).setCell (bK _) _).setCell (bK _) _
   ·have l0:qL bag=true/\qj es=true:=by
     have:=n4.out;simpa using this.symm
    have q9:O<=6:=by rw[a8.out];exact xq l0.1
    have n6:m<=7:=by rw[HM.out];exact xH l0.2
    have r5:=hid l0;clear l0 n4 q7;go_wp2;go_loopw [8,48] (λv t wr=>∃(k:Nat) (vc:Value) (ps:List (Value×Dem)),k<=O/\t=.int .i64 k/\vc=v/\Hid (Bl w wr/\ZC wr w.heap.size/\DL wr w.heap.size vc ps/\ps.map Prod.snd=zD ((qG bag es).take k)/\ps.length=k/\∀i,i < k->(qG bag es).getD i []≠[])) (λ_ t _=>O - (intOf t).toNat)
    case atStart=>exact⟨0,_,[],nZ _,rfl,rfl,hid ⟨HA.out.alloc HA.out.size _,HC.out.alloc _,(DL.nil W0).base HA.out.size,rfl,rfl,λi hi=>Oo⟩⟩
    case round=>
     obtain⟨k,vc,ps,hk,rfl,rfl,hH⟩:=hrel;generalize wr=W2 at *;have e0:=hid hH.out.1;have l1:=hid hH.out.2.1;have l2:=hid hH.out.2.2.1;have n8:=hid hH.out.2.2.2.1;have r6:=hid hH.out.2.2.2.2.1;have n9:=hid hH.out.2.2.2.2.2;clear hH;by_cases r7:k < O
     ·have i2:(k:Int) < (O:Int):=Oo;obtain⟨b,o,rfl,e1⟩:=q4.out k r7;have c1:=(e0.out.cell (p:=⟨b,o+k,none⟩) (bL w _ e1)).trans e1;have c7:k < bag.length:=by rw[<-a8.out];exact r7
      have o2:=hid (XE (es:=es) c7);have o3:=hid (x8 bag es c7);have o4:Hid (plN (λi=>decide (bag.getD k 0∈es.getD i [])) es.length=[]->ql bag es=false):=hid (qDQ c7);rw[<-HM.out]at o2 o3 o4;obtain⟨p,hp⟩:∃p:Nat->Bool,p=λi=>decide (bag.getD k 0∈es.getD i []):=⟨_,rfl⟩;rw[<-hp]at o2 o3 o4;have l3:=hid hp;obtain⟨z,hz⟩:∃z,z=bag.getD k 0:=⟨_,rfl⟩;rw[<-hz]at c1 l3;clear c7 hp e1 hz;go_upto_region 14 with fail
      have a7:=AT.new W2 (.slice none 0 0) false;have r8:Bl W2 (W2.alloc (.cells #[.slice none 0 0,.bool false,.int .i64 1] 53)):=(bM _ _).alloc (bK _) _;have HX:Hid (Bl W2 (W2.alloc (.cells #[.slice none 0 0,.bool false,.int .i64 1] 53))/\∃U,AT (W2.alloc (.cells #[.slice none 0 0,.bool false,.int .i64 1] 53)) W2.heap.size U false/\(W2.alloc (.cells #[.slice none 0 0,.bool false,.int .i64 1] 53)).ownsRow W2.heap.size 3 1 U (plc p 0).length ((plc p 0).map (Value.int .i64))):=hid ⟨r8,_,a7,bG _ _ _ _⟩;clear a7 r8 c1;generalize W2.alloc (.cells #[.slice none 0 0,.bool false,.int .i64 1] 53)=W3 at *;go_wp2;go_loopw [55] (λt wr=>∃j:Nat,j<=m/\t=.int .i64 j/\Hid (Bl W2 wr/\∃U,AT wr W2.heap.size U false/\wr.ownsRow W2.heap.size 3 1 U (plc p j).length ((plc p j).map (Value.int .i64)))) (λt _=>m - (intOf t).toNat)
      case atStart=>exact⟨0,nZ _,rfl,HX⟩
      case round=>
       obtain⟨j,v6,rfl,hH⟩:=hrel;clear HX;obtain⟨d8,U,a7,I⟩:=hH.out;have a4:=hid d8;have h4:=hid a7;have a9:=hid I;have r9:=xK p j;have h5:=d8.size;have t0:=a7.arr.cell 0 Oo;have t1:=a7.arr.cell 1 Oo;have t2:=a7.arr.cell 2 Oo;have f0:=a7.arr.free 0 Oo;simp only[f3]at t0 t1 t2;clear hH d8 a7 I;by_cases l4:j < m
       ·have i3:(j:Int) < (m:Int):=Oo;obtain⟨b',o',u,rfl,e1,hu⟩:=m9.out j l4;have o5:=bt e0.out a4.out;have c2:=(o5.cell (p:=⟨b',o'+j,none⟩) (bL w _ e1)).trans e1;have KH:Hid (Cl 16 #[u,.int .i64 z] wr λe w'=>e=.returned (.bool (decide (z∈es.getD j [])))/\w'=wr):=hid (qU wr u _ z (hu.below o5) (m8.out j));have h6:p j=decide (z∈es.getD j []):=by rw[l3.out]
        rw[<-h6]at KH;clear e1 hu o5 h6;by_cases f9:p j=true
        ·have e1:=hid (xi p j f9);rw[f9]at KH;have I:=a9.out
         go_wp2_with (first
          |(go_at_call 16;refine KH.out.mono ?_;rintro e w' ⟨rfl,f8⟩;subst w')
          |(at_builtin;refine wpList_append_own _ rfl _ _ 25 rfl W2.heap.size 3 i0 (.int .i64 0) 1 8 Tryz.underlying25 hi p7 p8 p9 rfl Dd _ _ _ rfl (I.alloc _) ⟨wr.heap.size,0,none⟩ 1 1 [.int .i64 j] rfl rfl ?ka1 ?ka2 ?ka3 ?ka4 ?ka5 ?_))
         case ka1=>exact qH _ _ _
         case ka2=>intro u hu;simp at hu;subst hu;rfl
         case ka3=>unfold maxLen;omega
         case ka4=>omega
         case ka5=>exact bQ h5 Ss
         intro v' w1 V M _;obtain⟨a6,c6,e6⟩:=QC V;obtain⟨⟨q0,q1⟩,e3,c8⟩:=h4.out.grow I V M;have e4:=qe h5 I a4.out M;have HF:Hid (Bl W2 (w1.setCell ⟨W2.heap.size,0,none⟩ v')/\∃U,AT (w1.setCell ⟨W2.heap.size,0,none⟩ v') W2.heap.size U false/\(w1.setCell ⟨W2.heap.size,0,none⟩ v').ownsRow W2.heap.size 3 1 U (plc p (j+1)).length ((plc p (j+1)).map (Value.int .i64))):=hid ⟨e4.setCell (bK _) _,v',e3,by rw[e1.out];simpa using c8⟩;clear V M I e3 c8 e4 t0 t1 t2 f0;subst e6;go_wp2;go_roundw
         case rel=>exact⟨j+1,Oo,Gg,HF⟩
         case measure=>simp[intOf];omega
        ·have h8:p j=false:=by simpa using f9
         have e1:=hid (zy p j h8);rw[h8]at KH;go_wp2_with (first|(go_at_call 16;refine KH.out.mono ?_;rintro e w' ⟨rfl,f8⟩;subst w'))
         go_roundw
         case rel=>exact⟨j+1,Oo,Gg,hid ⟨a4.out,U,h4.out,by rw[e1.out];exact a9.out⟩⟩
         case measure=>simp[intOf];omega
       ·obtain rfl:m=j:=Oo;have i3:¬((m:Int) < (m:Int)):=Oo;obtain⟨a5,c5,e5,-⟩:=qK a9.out;subst e5;have c9:=hid (Xr p m);have o6:=hid (bt e0.out a4.out);generalize hlp:(plc p m).length=lp at *;by_cases h9:lp=0
        ·subst h9;have n5:Hid ((qL bag&&qj es&&ql bag es)=false):=hid (by rw[o4.out (List.length_eq_zero_iff.1 (c9.out.symm.trans rfl)),Bool.and_false]);have l5:=(l1.out.below a4.out).arr;obtain⟨c0,c1,c2,c3,c4⟩:=ArrAt.five l5;obtain⟨d0,d1,d2,d3,d4⟩:=l5.frees;have HZ:=hid (ArrAt.five_set l5 (.bool false) (.int .i64 0) (.int .i64 0) (.slice none 0 0) (.slice none 0 0));clear l5;go_wp2;obtain⟨r0,r1,r2,r3,r4⟩:=HZ.out.five;refine bodyPost_ret (v:=.agg #[.bool false,.int .i64 0,.int .i64 0,.slice none 0 0,.slice none 0 0]) (by simp[results,Tryz.results5,go_sem,r0,r1,r2,r3,r4]) rfl ⟨Or.inl ⟨n5.out,rfl⟩,?_⟩;exact((((o6.out.setCell (bK _) _).setCell (bK _) _).setCell (bK _) _).setCell (bK _) _).setCell (bK _) _
        ·have i4:¬((lp:Int)=0):=Oo;have i5:((lp:Int) == 0)=false:=by simp;omega
         have o7:=l2.out.below a4.out;have hlen:=r6.out;have I:=o7.own;rw[hlen]at I;have b0:=o6.out.size
         go_wp2_with (first
          |(at_builtin;refine wpList_append_own _ rfl _ _ 51 rfl w.heap.size 53 iD (.agg #[.slice none 0 0,.bool false,.int .i64 0]) 3 40 Tryz.underlying51 hj k4 k5 k7 rfl Dd _ _ _ rfl (I.alloc _) ⟨wr.heap.size,0,none⟩ 1 1 [.slice a5 lp c5,.bool false,.int .i64 1] rfl rfl ?kb1 ?kb2 ?kb3 ?kb4 ?kb5 ?_))
         case kb2=>first|rfl|exact⟨rfl,rfl,rfl⟩|(intro u hu;simp at hu;rcases hu with rfl|rfl|rfl <;> rfl)
         case kb3=>unfold maxLen;omega
         case kb4=>omega
         case kb5=>exact bQ b0 Ss
         intro v' w3 V M _
         have s3:=o7.step (p:=(.slice a5 lp c5,⟨plN p m,false,1⟩)) (by
          have:=qF a9.out e0.out.size;show wr.ownsRow w.heap.size 3 1 (.slice a5 lp c5) (plN p m).length (vT (plN p m));rw[<-c9.out,<-QO];exact this) (by rw[hlen];exact V) M
         have e4:=qe b0 I o6.out M;have s4:ZC w3 w.heap.size:=(l1.out.below a4.out).grow I M
         have HF:Hid (Bl w w3/\ZC w3 w.heap.size/\DL w3 w.heap.size v' (ps++[(.slice a5 lp c5,⟨plN p m,false,1⟩)])/\(ps++[((.slice a5 lp c5:Value),(⟨plN p m,false,1⟩:Dem))]).map Prod.snd=zD ((qG bag es).take (k+1))/\(ps++[((.slice a5 lp c5:Value),(⟨plN p m,false,1⟩:Dem))]).length=k+1/\∀i,i < k+1->(qG bag es).getD i []≠[]):=hid ⟨e4,s4,s3,by rw[mA,n8.out,o2.out];rfl,by rw[lA,hlen];rfl,λi hi=>by
          by_cases e:i=k
          ·rw[e,o3.out];intro e2;have:=c9.out;rw[e2]at this;exact h9 this
          ·exact n9.out i Oo⟩
         clear s3 e4 s4 V M I o7 t0 t1 t2 f0;go_wp2;go_roundw
         case rel=>exact⟨k+1,v',_,Oo,Gg,rfl,HF⟩
         case measure=>simp[intOf];omega
     ·obtain rfl:O=k:=Oo;have i2:¬((O:Int) < (O:Int)):=Oo;have s5:Hid (ql bag es=true):=hid (qAx (by rw[<-a8.out];exact n9.out));have s6:Hid (ps.map Prod.snd=zD (qG bag es)):=hid (by rw[n8.out,a8.out,<-zh bag es,tL])
      have HX:Hid (Bl w (W2.alloc eD)/\ZC (W2.alloc eD) w.heap.size/\DL (W2.alloc eD) w.heap.size vc ps/\DL (W2.alloc eD) w.heap.size (.slice (some ⟨W2.heap.size,0,none⟩) 0 0) []/\ps.map Prod.snd=zD (qG bag es)++qZ 0/\([]:List (Value×Dem)).map Prod.snd=zb ((qc bag es).take 0)/\(∀g,(Value.slice (some ⟨W2.heap.size,0,none⟩) 0 0).ownBlock=some g->vc.ownBlock≠some g)):=hid ⟨e0.out.alloc e0.out.size _,l1.out.alloc _,l2.out.below ((bM _ _).alloc (bK _) _),(DL.nil W2).base e0.out.size,by rw[s6.out];simp[qZ],by simp[zb],λg e e2=>by
       have h1:=jx e;have h2:=(l2.out.own.lt g e2).2;omega⟩
      clear n8 s6 n9 r6;go_wp2;go_loopw [8,14,83] (λv u t wr=>∃(k:Nat) (vc vp:Value) (ps qs:List (Value×Dem)),k<=m/\t=.int .i64 k/\vc=v/\vp=u/\Hid (Bl w wr/\ZC wr w.heap.size/\DL wr w.heap.size vc ps/\DL wr w.heap.size vp qs/\ps.map Prod.snd=zD (qG bag es)++qZ k/\qs.map Prod.snd=zb ((qc bag es).take k)/\(∀g,vp.ownBlock=some g->vc.ownBlock≠some g))) (λ_ _ t _=>m - (intOf t).toNat)
      case atStart=>exact⟨0,_,_,ps,[],nZ _,rfl,rfl,rfl,HX⟩
      case round=>
       clear HX e0 l1 l2;obtain⟨k,vc,vp,ps,qs,hk,rfl,rfl,rfl,hH⟩:=hrel;generalize wr=W4 at *;obtain⟨d8,i8,i9,j0,o8,g2,j1⟩:=hH.out;have a4:=hid d8;have e7:=hid i8;have b9:=hid i9;have d7:=hid j0;have l6:=hid o8;have e8:=hid g2;have d9:=hid j1
       have c9:Hid (ps.length=O+k):=hid (by
        have:=congrArg List.length o8;rw[lM,lA]at this;rw[this];simp only[zD,qZ,List.length_map,zh,List.length_range];rw[a8.out])
       have s7:Hid (qs.length<=k):=hid (by
        have:=congrArg List.length g2;rw[lM]at this;rw[this];simp only[zb,List.length_map];refine bQ (List.length_filter_le _ _) ?_;rw[bZ];omega)
       clear hH d8 i8 i9 j0 o8 g2 j1;by_cases h3:k < m
       ·have i2:(k:Int) < (m:Int):=Oo;obtain⟨b,o,u,rfl,e1,hu⟩:=m9.out k h3;have c1:=(a4.out.cell (p:=⟨b,o+k,none⟩) (bL w _ e1)).trans e1;have HU:=hid hu;have c7:k < es.length:=by rw[<-HM.out];exact h3
        have j2:=hid (λh=>qCG (bag:=bag) c7 h);have g4:=hid (λh=>qAy (bag:=bag) c7 h);rw[<-a8.out]at j2 g4;obtain⟨p,hp⟩:∃p:Nat->Bool,p=λi=>decide (bag.getD i 0∈es.getD k []):=⟨_,rfl⟩;rw[<-hp]at j2 g4;have l3:=hid hp;have v7:=hid (m8.out k);clear c7 hp e1 hu;have I:=b9.out.own;have hlen:=c9.out;rw[hlen]at I;have b0:=a4.out.size
        go_wp2_with (first
         |(at_builtin;refine wpList_append_lies _ rfl _ _ 51 rfl w.heap.size 53 iD (.agg #[.slice none 0 0,.bool false,.int .i64 0]) 3 40 Tryz.underlying51 hj k4 k5 k7 rfl Dd _ _ _ rfl ((I.alloc _).alloc _) ⟨W4.heap.size+1,0,none⟩ 1 1 [.slice (some ⟨W4.heap.size,0,none⟩) 1 1,.bool false,.int .i64 0] rfl rfl ?kc1 ?kc2 Dd ?kc3 ?kc4 ?kc5 _ rfl ?_))
        case kc1=>exact qFb _ _ _ _
        case kc2=>first|rfl|exact⟨rfl,rfl,rfl⟩|(intro u hu;simp at hu;rcases hu with rfl|rfl|rfl <;> rfl)
        case kc3=>unfold maxLen;omega
        case kc4=>omega
        case kc5=>exact bQ b0 (by simp;omega)
        intro g1 l7 w1 d6 K e9 j3;have a3:Bl W4 (W4.alloc (.cells #[.int .i64 k] 3)):=(bM _ _).alloc (bK _) _;have j4:(W4.alloc (.cells #[.int .i64 k] 3)).ownsRow w.heap.size 3 1 (.slice (some ⟨W4.heap.size,0,none⟩) 1 1) 1 (vT [k]):=World.ownsRow_lit W4 #[.int .i64 k] 1 b0 Dd rfl;obtain⟨f4,g6⟩:∃v:Value,v=.slice (some ⟨g1,0,none⟩) (O+k+1) l7:=⟨_,rfl⟩;obtain⟨f7,m2⟩:∃q:List (Value×Dem),q=ps++[(.slice (some ⟨W4.heap.size,0,none⟩) 1 1,⟨[k],false,0⟩)]:=⟨_,rfl⟩
        have HX:Hid (Bl w w1/\ZC w1 w.heap.size/\DL w1 w.heap.size f4 f7/\DL w1 w.heap.size vp qs/\f7.map Prod.snd=zD (qG bag es)++qZ (k+1)/\(∀g,vp.ownBlock=some g->f4.ownBlock≠some g)):=hid (by
         rw[g6,m2];exact⟨qe (bQ b0 a3.size) (qB b9.out.own a3) (bt a4.out a3) K,(e7.out.below a3).grow (qB b9.out.own a3) K,(b9.out.below a3).step (p:=(.slice (some ⟨W4.heap.size,0,none⟩) 1 1,⟨[k],false,0⟩)) j4 (by rw[hlen];exact d6) K,(d7.out.below a3).other (qB b9.out.own a3) d9.out K,by rw[mA,l6.out,jS,List.append_assoc];rfl,UO (d7.out.below a3) d9.out (e9.imp id (λh=>by simp;omega))⟩)
        have x1:=hid g6;clear d6 K e9 j3 a3 j4 I b9 d7 l6 e7 d9 a4 c1 m2 c9 hlen b0;rw[<-g6];clear g6;go_upto_region 30 with fail
        generalize w1=W5 at *;have a7:=AT.new W5 (.slice none 0 0) true;have g7:Bl W5 (W5.alloc (.cells #[.slice none 0 0,.bool true,.int .i64 1] 53)):=(bM _ _).alloc (bK _) _;have HY:Hid (Bl W5 (W5.alloc (.cells #[.slice none 0 0,.bool true,.int .i64 1] 53))/\∃U,AT (W5.alloc (.cells #[.slice none 0 0,.bool true,.int .i64 1] 53)) W5.heap.size U true/\(W5.alloc (.cells #[.slice none 0 0,.bool true,.int .i64 1] 53)).ownsRow W5.heap.size 3 1 U (plc p 0).length ((plc p 0).map (Value.int .i64))):=hid ⟨g7,_,a7,bG _ _ _ _⟩;clear a7 g7;generalize W5.alloc (.cells #[.slice none 0 0,.bool true,.int .i64 1] 53)=W6 at *;go_wp2;go_loopw [97] (λt wr=>∃j:Nat,j<=O/\t=.int .i64 j/\Hid (Bl W5 wr/\∃U,AT wr W5.heap.size U true/\wr.ownsRow W5.heap.size 3 1 U (plc p j).length ((plc p j).map (Value.int .i64)))) (λt _=>O - (intOf t).toNat)
        case atStart=>exact⟨0,nZ _,rfl,HY⟩
        case round=>
         obtain⟨j,v6,rfl,hH⟩:=hrel;clear HY;obtain⟨g7,U,a7,I⟩:=hH.out;have g8:=hid g7;have h4:=hid a7;have a9:=hid I;have r9:=xK p j;have h5:=g7.size;have t0:=a7.arr.cell 0 Oo;have t1:=a7.arr.cell 1 Oo;have t2:=a7.arr.cell 2 Oo;have f0:=a7.arr.free 0 Oo;simp only[f3]at t0 t1 t2;have j5:=hid (bt HX.out.1 g8.out);clear hH g7 a7 I;by_cases l4:j < O
         ·have i3:(j:Int) < (O:Int):=Oo;obtain⟨b',o',rfl,e1⟩:=q4.out j l4;have c2:=(j5.out.cell (p:=⟨b',o'+j,none⟩) (bL w _ e1)).trans e1;have KH:Hid (Cl 16 #[u,.int .i64 (bag.getD j 0)] wr λe w'=>e=.returned (.bool (decide (bag.getD j 0∈es.getD k [])))/\w'=wr):=hid (qU wr u _ _ (HU.out.below j5.out) v7.out);have h6:p j=decide (bag.getD j 0∈es.getD k []):=by rw[l3.out]
          rw[<-h6]at KH;clear e1 h6;generalize bag.getD j 0=z at *;by_cases f9:p j=true
          ·have e1:=hid (xi p j f9);rw[f9]at KH;have I:=a9.out
           go_wp2_with (first
            |(go_at_call 16;refine KH.out.mono ?_;rintro e w' ⟨rfl,f8⟩;subst w')
            |(at_builtin;refine wpList_append_own _ rfl _ _ 25 rfl W5.heap.size 3 i0 (.int .i64 0) 1 8 Tryz.underlying25 hi p7 p8 p9 rfl Dd _ _ _ rfl (I.alloc _) ⟨wr.heap.size,0,none⟩ 1 1 [.int .i64 j] rfl rfl ?kd1 ?kd2 ?kd3 ?kd4 ?kd5 ?_))
           case kd1=>exact qH _ _ _
           case kd2=>intro u hu;simp at hu;subst hu;rfl
           case kd3=>unfold maxLen;omega
           case kd4=>omega
           case kd5=>exact bQ h5 Ss
           intro v' w1 V M _;obtain⟨a6,c6,e6⟩:=QC V;obtain⟨⟨q0,q1⟩,e3,c8⟩:=h4.out.grow I V M;have e4:=qe h5 I g8.out M;have HF:Hid (Bl W5 (w1.setCell ⟨W5.heap.size,0,none⟩ v')/\∃U,AT (w1.setCell ⟨W5.heap.size,0,none⟩ v') W5.heap.size U true/\(w1.setCell ⟨W5.heap.size,0,none⟩ v').ownsRow W5.heap.size 3 1 U (plc p (j+1)).length ((plc p (j+1)).map (Value.int .i64))):=hid ⟨e4.setCell (bK _) _,v',e3,by rw[e1.out];simpa using c8⟩;clear V M I e3 c8 e4 t0 t1 t2 f0;subst e6;go_wp2;go_roundw
           case rel=>exact⟨j+1,Oo,Gg,HF⟩
           case measure=>simp[intOf];omega
          ·have h8:p j=false:=by simpa using f9
           have e1:=hid (zy p j h8);rw[h8]at KH;go_wp2_with (first|(go_at_call 16;refine KH.out.mono ?_;rintro e w' ⟨rfl,f8⟩;subst w'))
           go_roundw
           case rel=>exact⟨j+1,Oo,Gg,hid ⟨g8.out,U,h4.out,by rw[e1.out];exact a9.out⟩⟩
           case measure=>simp[intOf];omega
         ·obtain rfl:O=j:=Oo;have i3:¬((O:Int) < (O:Int)):=Oo;obtain⟨a5,c5,e5,-⟩:=qK a9.out;subst e5;have c9:=hid (Xr p O);generalize hlp:(plc p O).length=lp at *;have o9:=hid (HX.out.2.2.2.1.below g8.out);have p1:=hid (HX.out.2.2.1.below g8.out);have s8:=hid (HX.out.2.1.below g8.out);by_cases h9:lp=0
          ·subst h9;have HF:Hid (Bl w wr/\ZC wr w.heap.size/\DL wr w.heap.size f4 f7/\DL wr w.heap.size vp qs/\f7.map Prod.snd=zD (qG bag es)++qZ (k+1)/\qs.map Prod.snd=zb ((qc bag es).take (k+1))/\(∀g,vp.ownBlock=some g->f4.ownBlock≠some g)):=hid ⟨j5.out,s8.out,p1.out,o9.out,HX.out.2.2.2.2.1,by rw[g4.out (List.length_eq_zero_iff.1 (c9.out.symm.trans rfl))];exact e8.out,HX.out.2.2.2.2.2⟩;go_wp2;go_roundw
           case rel=>exact⟨k+1,f4,vp,f7,qs,Oo,Gg,rfl,rfl,HF⟩
           case measure=>simp[intOf];omega
          ·have i4:(0:Int) < (lp:Int):=Oo;have I:=o9.out.own;have v8:=s7.out;have b0:=j5.out.size
           go_wp2_with (first
            |(at_builtin;refine wpList_append_lies _ rfl _ _ 51 rfl w.heap.size 53 iD (.agg #[.slice none 0 0,.bool false,.int .i64 0]) 3 40 Tryz.underlying51 hj k4 k5 k7 rfl Dd _ _ _ rfl (I.alloc _) ⟨wr.heap.size,0,none⟩ 1 1 [.slice a5 lp c5,.bool true,.int .i64 1] rfl rfl ?ke1 ?ke2 Dd ?ke3 ?ke4 ?ke5 _ rfl ?_))
           case ke2=>first|rfl|exact⟨rfl,rfl,rfl⟩|(intro u hu;simp at hu;rcases hu with rfl|rfl|rfl <;> rfl)
           case ke3=>unfold maxLen;omega
           case ke4=>omega
           case ke5=>exact bQ b0 Ss
           intro g3 cp3 w3 j6 b7 m3 s9
           have t3:wr.ownsRow w.heap.size 3 1 (.slice a5 lp c5) (plN p O).length (vT (plN p O)):=by
            have:=qF a9.out HX.out.1.size;rw[<-c9.out,<-QO];exact this
           have t4:Hid (plN p O≠[]):=hid (λe=>by
            have:=c9.out;rw[e]at this;exact h9 this)
           have HF:Hid (Bl w w3/\ZC w3 w.heap.size/\DL w3 w.heap.size f4 f7/\DL w3 w.heap.size (.slice (some ⟨g3,0,none⟩) (qs.length+1) cp3) (qs++[(.slice a5 lp c5,⟨plN p O,true,1⟩)])/\f7.map Prod.snd=zD (qG bag es)++qZ (k+1)/\(qs++[((.slice a5 lp c5:Value),(⟨plN p O,true,1⟩:Dem))]).map Prod.snd=zb ((qc bag es).take (k+1))/\(∀g,(Value.slice (some ⟨g3,0,none⟩) (qs.length+1) cp3).ownBlock=some g->f4.ownBlock≠some g)):=hid ⟨qe b0 I j5.out b7,s8.out.grow I b7,p1.out.other I (λg h1 h2=>HX.out.2.2.2.2.2 g h2 h1) b7,o9.out.step (p:=(.slice a5 lp c5,⟨plN p O,true,1⟩)) t3 j6 b7,HX.out.2.2.2.2.1,by rw[mA,e8.out,j2.out t4.out];rfl,λg h1 h2=>UO p1.out (λg h1 h2=>HX.out.2.2.2.2.2 g h2 h1) (m3.imp id (λh=>Oo)) g h2 h1⟩;clear j6 b7 m3 s9 I t3 t0 t1 t2 f0;go_wp2;go_roundw
           case rel=>exact⟨k+1,f4,_,f7,_,Oo,Gg,rfl,rfl,HF⟩
           case measure=>simp[intOf];omega
       ·obtain rfl:m=k:=Oo;have i2:¬((m:Int) < (m:Int)):=Oo;have HX:Hid (Bl w W4/\ZC W4 w.heap.size/\DL W4 w.heap.size vc ps/\DL W4 w.heap.size vp qs/\qs.map Prod.snd=zb (qc bag es)++qZ 0/\(∀g,vp.ownBlock=some g->vc.ownBlock≠some g)):=hid ⟨a4.out,e7.out,b9.out,d7.out,by rw[e8.out,HM.out,<-zP bag es,tL];simp[qZ],d9.out⟩;have l8:Hid (ps.map Prod.snd=yH bag es):=hid (by rw[l6.out,HM.out];rfl);clear a4 e7 b9 d7 l6 e8 d9 c9 s7;go_wp2;go_loopw [14,123] (λu t wr=>∃(j:Nat) (vp:Value) (qs:List (Value×Dem)),j<=O/\t=.int .i64 j/\vp=u/\Hid (Bl w wr/\ZC wr w.heap.size/\DL wr w.heap.size vc ps/\DL wr w.heap.size vp qs/\qs.map Prod.snd=zb (qc bag es)++qZ j/\(∀g,vp.ownBlock=some g->vc.ownBlock≠some g))) (λ_ t _=>O - (intOf t).toNat)
        case atStart=>exact⟨0,_,qs,nZ _,rfl,rfl,HX⟩
        case round=>
         clear HX;obtain⟨j,vp,qs,x2,rfl,rfl,hH⟩:=hrel;generalize wr=W7 at *;obtain⟨d8,i8,i9,j0,g2,j1⟩:=hH.out;have a4:=hid d8;have e7:=hid i8;have b9:=hid i9;have d7:=hid j0;have e8:=hid g2;have d9:=hid j1
         have v8:qs.length<=m+j:=by
          have:=congrArg List.length g2;rw[lM,lA]at this;rw[this];simp only[zb,qZ,List.length_map,List.length_range];have:=List.length_filter_le (λl:List Nat=>!l.isEmpty) (qc bag es);rw[zP,<-HM.out]at this;omega
         clear hH d8 i8 i9 j0 g2 j1;by_cases l4:j < O
         ·have i3:(j:Int) < (O:Int):=Oo;have I:=d7.out.own;have b0:=a4.out.size
          go_wp2_with (first
           |(at_builtin;refine wpList_append_lies _ rfl _ _ 51 rfl w.heap.size 53 iD (.agg #[.slice none 0 0,.bool false,.int .i64 0]) 3 40 Tryz.underlying51 hj k4 k5 k7 rfl Dd _ _ _ rfl ((I.alloc _).alloc _) ⟨W7.heap.size+1,0,none⟩ 1 1 [.slice (some ⟨W7.heap.size,0,none⟩) 1 1,.bool false,.int .i64 0] rfl rfl ?kf1 ?kf2 Dd ?kf3 ?kf4 ?kf5 _ rfl ?_))
          case kf1=>exact qFb _ _ _ _
          case kf2=>first|rfl|exact⟨rfl,rfl,rfl⟩|(intro u hu;simp at hu;rcases hu with rfl|rfl|rfl <;> rfl)
          case kf3=>unfold maxLen;omega
          case kf4=>omega
          case kf5=>exact bQ b0 (by simp;omega)
          intro g1 l7 w1 d6 K e9 j3;have a3:Bl W7 (W7.alloc (.cells #[.int .i64 j] 3)):=(bM _ _).alloc (bK _) _;have j4:(W7.alloc (.cells #[.int .i64 j] 3)).ownsRow w.heap.size 3 1 (.slice (some ⟨W7.heap.size,0,none⟩) 1 1) 1 (vT [j]):=World.ownsRow_lit W7 #[.int .i64 j] 1 b0 Dd rfl;have HF:Hid (Bl w w1/\ZC w1 w.heap.size/\DL w1 w.heap.size vc ps/\DL w1 w.heap.size (.slice (some ⟨g1,0,none⟩) (qs.length+1) l7) (qs++[(.slice (some ⟨W7.heap.size,0,none⟩) 1 1,⟨[j],false,0⟩)])/\(qs++[((.slice (some ⟨W7.heap.size,0,none⟩) 1 1:Value),(⟨[j],false,0⟩:Dem))]).map Prod.snd=zb (qc bag es)++qZ (j+1)/\(∀g,(Value.slice (some ⟨g1,0,none⟩) (qs.length+1) l7).ownBlock=some g->vc.ownBlock≠some g)):=hid ⟨qe (bQ b0 a3.size) (qB I a3) (bt a4.out a3) K,(e7.out.below a3).grow (qB I a3) K,(b9.out.below a3).other (qB I a3) (λg h1 h2=>d9.out g h2 h1) K,(d7.out.below a3).step (p:=(.slice (some ⟨W7.heap.size,0,none⟩) 1 1,⟨[j],false,0⟩)) j4 d6 K,by rw[mA,e8.out,jS,List.append_assoc];rfl,λg h1 h2=>UO (b9.out.below a3) (λg h1 h2=>d9.out g h2 h1) (e9.imp id (λh=>by simp;omega)) g h2 h1⟩;clear d6 K e9 j3 a3 j4 I;go_wp2;go_roundw
          case rel=>exact⟨j+1,_,_,Oo,Gg,rfl,HF⟩
          case measure=>simp[intOf];omega
         ·obtain rfl:O=j:=Oo;have i3:¬((O:Int) < (O:Int)):=Oo;have l9:Hid (qs.map Prod.snd=kC bag es):=hid (by rw[e8.out,a8.out];rfl);have k0:Hid ((qL bag&&qj es&&ql bag es)=true):=hid (by rw[r5.out.1,r5.out.2,s5.out];rfl);obtain⟨t5,t6,t7⟩:=m7.out k0.out;have k1:=hid t5;have m4:=hid t6;have v9:=hid t7;clear t5 t6 t7 e8 d9;by_cases p2:O=0
          ·have i5:(O:Int)=0:=Oo;have i6:((O:Int) == 0)=true:=by simp;omega
           have p3:∀i,i < m->x i=0:=by
            have:=k1.out;rw[<-a8.out,<-HM.out,p2]at this;exact qAg this
           have KZ:Hid (∀W,Cl 17 #[.int .i64 m] W λe w'=>∃v,e=.returned v/\IR w' v (prs m x)/\(∃a cap,v=.slice a m cap)/\Bl W w'):=hid (λW=>(kh W m Oo).mono (by
            rintro e w' ⟨v,rfl,h1,h2⟩;refine⟨v,rfl,QA (B:=W.heap.size) (by rw[qR,<-qFq p3];exact h1),QC h1,h2⟩))
           have w0:Hid (Cov.sm es.length x=0):=hid (by rw[<-HM.out];exact Cov.sm_zero p3);have w4:=hid p2;clear p3 p2;go_wp2_with (first|(go_at_call 17;refine(KZ.out _).mono ?_;rintro e w1 ⟨vz,rfl,w5,⟨az,cz,rfl⟩,g5⟩;have hz:=(e7.out.below g5).alloc (.cells #[] 28);obtain⟨c0,c1,c2,c3,c4⟩:=ArrAt.five hz.arr;obtain⟨d0,d1,d2,d3,d4⟩:=hz.arr.frees))
           have p4:=ArrAt.five_set hz.arr (.bool true) (.int .i64 0) (.int .i64 1) (.slice az m cz) (.slice (some ⟨w1.heap.size,0,none⟩) 0 0);obtain⟨r0,r1,r2,r3,r4⟩:=p4.five;have p5:=(bt a4.out g5).alloc (bt a4.out g5).size (.cells #[] 28);refine bodyPost_ret (v:=.agg #[.bool true,.int .i64 0,.int .i64 1,.slice az m cz,.slice (some ⟨w1.heap.size,0,none⟩) 0 0]) (by simp[results,Tryz.results5,go_sem,r0,r1,r2,r3,r4]) rfl ⟨Or.inr ⟨k0.out,_,_,by rw[w0.out];rfl,?_,?_⟩,?_⟩
           ·rw[<-HM.out];exact UP (w5.below ((bM _ _).alloc (bK _) _)) hz _ _ _ _ _
           ·rw[<-a8.out,w4.out];exact⟨_,0,rfl,Or.inl rfl⟩
           ·exact((((p5.setCell (bK _) _).setCell (bK _) _).setCell (bK _) _).setCell (bK _) _).setCell (bK _) _
          ·have i5:¬((O:Int)=0):=Oo;have i6:((O:Int) == 0)=false:=by simp;omega
           have t8:1<=m:=by
            obtain⟨e,he,_⟩:=jE s5.out (v:=0) (by rw[<-a8.out];omega);rw[HM.out];omega
           have K1:Hid (Cl 18 #[.int .i64 m,vc,.int .i64 0,.slice none 0 0,.slice none 0 0,.bool false] W7 λe w'=>∃v,e=.returned v/\IR w' v (prs m x)/\Bl W7 w'):=hid (jR m false ps x t8 n6 (by
            have:=congrArg List.length l8.out;rw[lM,qAf,<-a8.out,<-HM.out]at this;omega) (by rw[l8.out,HM.out];exact Ye (by rw[<-HM.out];exact n6)) (by rw[l8.out,HM.out];exact Zw k1.out) vc W7 b9.out.dp)
           have K2:Hid (∀W,Bl W7 W->Cl 18 #[.int .i64 O,vp,.int .i64 0,.slice none 0 0,.slice none 0 0,.bool true] W λe w'=>∃v,e=.returned v/\IR w' v (prs O y)/\Bl W w'):=hid (λW hW=>jR O true qs y Oo Oo (by
            have:=congrArg List.length l9.out;rw[lM]at this;have h2:=qBr bag es;rw[<-a8.out,<-HM.out]at h2;omega) (by rw[l9.out,a8.out];exact qCw (by rw[<-a8.out];exact q9)) (by rw[l9.out,a8.out];exact qBq m4.out) vp W (d7.out.below hW).dp)
           have t9:Hid (Parts m x):=hid (by rw[HM.out];exact v9.out);have m5:Hid ((Cov.sm es.length x).num=(Cov.sm m x).num/\(Cov.sm es.length x).den=(Cov.sm m x).den):=hid (by rw[HM.out];exact⟨rfl,rfl⟩);clear b9 d7 l8 l9 k1 m4;go_upto_region 47 with (first|(go_at_call 18;refine K1.out.mono ?_;rintro e w1 ⟨v1,rfl,u4,g5⟩))
           have u5:=hid u4;have u6:=hid g5;obtain⟨a1,q1,e1,-⟩:=u4;rw[qR]at e1;subst e1;have u9:=hid (K2.out w1 g5);clear g5 K1 K2;go_upto_region 48 with (first|(go_at_call 18;refine u9.out.mono ?_;rintro e w2 ⟨v2,rfl,v3,m0⟩))
           have w7:=hid v3;have m6:=hid m0;obtain⟨a2,q2,e2,-⟩:=v3;rw[qR]at e2;subst e2;have w8:Hid (Cl 19 #[.slice a1 m q1] w2 λe w'=>e=.returned (.agg #[.int .i64 (Cov.sm m x).num,.int .i64 (Cov.sm m x).den])/\Bl w2 w'):=hid (jA w2 _ m x n6 (u5.out.below m0) t9.out);have w9:=hid ((e7.out.below u6.out).below m0);clear m0 u9;generalize (Cov.sm m x).num=s1 at *;generalize (Cov.sm m x).den=s2 at *;go_wp2_with (first|(go_at_call 19;refine w8.out.mono ?_;rintro e w3 ⟨rfl,m1⟩;have hz:=w9.out.below m1;obtain⟨c0,c1,c2,c3,c4⟩:=ArrAt.five hz.arr;obtain⟨d0,d1,d2,d3,d4⟩:=hz.arr.frees))
           have p4:=ArrAt.five_set hz.arr (.bool true) (.int .i64 s1) (.int .i64 s2) (.slice a1 m q1) (.slice a2 O q2);obtain⟨r0,r1,r2,r3,r4⟩:=p4.five;have p5:=bt (bt (bt a4.out u6.out) m6.out) m1;refine bodyPost_ret (v:=.agg #[.bool true,.int .i64 s1,.int .i64 s2,.slice a1 m q1,.slice a2 O q2]) (by simp[results,Tryz.results5,go_sem,r0,r1,r2,r3,r4]) rfl ⟨Or.inr ⟨k0.out,_,_,by rw[m5.out.1,m5.out.2],?_,?_⟩,?_⟩
           ·rw[<-HM.out];exact UP ((u5.out.below m6.out).below m1) hz _ _ _ _ _
           ·rw[<-a8.out];exact UP (w7.out.below m1) hz _ _ _ _ _
           ·exact((((p5.setCell (bK _) _).setCell (bK _) _).setCell (bK _) _).setCell (bK _) _).setCell (bK _) _
end Go.Proofs.YtkaipapdlnojiaaGreat
