import Derived.Test.YtkaipapdlnojiaaGreatWq42
set_option maxHeartbeats 40000000
set_option maxRecDepth 1000000
namespace Go.Proofs.YtkaipapdlnojiaaGreat
open Go.RowKit Meet Go.Shelf
variable {I ps:List (List Int)}{p:List Int}{m:Nat}
attribute [local go_sem] Oper.semAt_some
def LgG(x:JX)(nxt:List Int->List Int)(no l0:Nat):Prop:=∀(w:World) (bB bH:Nat) (vp vb:Value) (p:List Int),p.length < no->x.Hd p->Dat x w->Brn x x.n0 w vp vb p->BrX w bB vp vb->x.n0<=bB->w.heap[bH]?=some (.cells #[x.uh.getD p.length undef] 25 (0,0))->x.n0<=bH->¬RBk x w bH->
 Gives Tryz.prog 129 #[.pointer (some ⟨bB,0,none⟩),.pointer (some ⟨bH,0,none⟩)] qAq (KpB x l0) (λ_ _ _=>True) (qFg x nxt p) (nxt p) w
def WkE(x:JX)(l:Nat)(J:List (List Int)->World->Prop)(Jx:World->Prop)(ys:List (List Int))(Y:World)(e:Ending)(Z:World):Prop:=
 (e=.returned (.bool true)/\J ys Z/\KpS x (λk=>k=l) Y Z)∨(e=.returned (.bool false)/\Jx Z/\KpS x (λk=>k=l) Y Z)
def npQ(Q:Exit->Act->World->Prop):Exit->Act->World->Prop
 | .panic _,_,_=>False
 | .outgrown,_,_=>False
 |e,a,w=>Q e a w
theorem npQ.imp{Q:Exit->Act->World->Prop}:∀e a w,npQ Q e a w->Q e a w:=λe a w h=>by
 cases e with
 |panic c=>exact h.elim
 |outgrown=>exact h.elim
 |normal=>exact h
 |ret=>exact h
 |exit i=>exact h
 |goto t=>exact h
theorem qC0(nxt:List Int->List Int)(m:Nat)(p:List Int):∃r,zE nxt m p=p::r:=by
 cases m with
 |zero=>exact⟨[],rfl⟩
 |succ m=>exact⟨_,rfl⟩
theorem qEX{nxt:List Int->List Int}(h:ps++zE nxt m p <+:I):ps++[p] <+:I:=by
 obtain⟨r,e⟩:=qC0 nxt m p;rw[e]at h;exact List.IsPrefix.trans ⟨r,Ss⟩ h
theorem qEY{nxt:List Int->List Int}{pre:List Int}{y:Int}(h:ps++zE nxt (m+1) p <+:I)(hp:pre++[y] <+:nxt p):ps++[p]++pre.flatMap (λy=>zE nxt m (p++[y]))++zE nxt m (p++[y]) <+:I:=by
 obtain⟨r,e⟩:=hp;refine List.IsPrefix.trans ⟨r.flatMap λy=>zE nxt m (p++[y]),?_⟩ h;have K:ps++zE nxt (m+1) p=ps++[p]++(nxt p).flatMap λy=>zE nxt m (p++[y]):=by rw[List.append_assoc];rfl
 rw[K,<-e,List.flatMap_append,List.flatMap_append,List.flatMap_singleton];simp only[List.append_assoc]
def WkC(x:JX)(nxt:List Int->List Int)(no l:Nat)(tot:List (List Int))(J:List (List Int)->World->Prop)(Jx:World->Prop)(m:Nat):Prop:=∀(p:List Int) (ps:List (List Int)) (X Y:World) (vp vb hvv:Value),p.length+m=no->ps++zE nxt m p <+:tot->x.Hd p->x.n0<=X.heap.size->J ps X->KT x.n0 X Y->Dat x Y->Brn x X.heap.size Y vp vb p->(∃g c,vp=.slice (some ⟨g,0,none⟩) p.length c)->HVs x no p.length hvv->
 Cl 67 #[.agg #[vp,vb],hvv,.func (.yield l) #[] #[]] Y (WkE x l J Jx (ps++zE nxt m p) Y)
theorem Yk(x:JX)(hx:x.Ok)(nxt:List Int->List Int)(no:Nat)(hm:JMx x nxt no)(k8:∀p,p.length < no->x.Hd p->∀y∈nxt p,x.Hd (p++[y]))(l:Nat)(hl:l < x.n0)(hG:LgG x nxt no l)(i3:List (List Int))(J:List (List Int)->World->Prop)(Jx:World->Prop)
 (hJ:∀s X Y,J s X->KT x.n0 X Y->J s Y) (k9:∀X Y,Jx X->KT x.n0 X Y->Jx Y)
 (hY:∀ps p vp X Y,J ps X->KT x.n0 X Y->Y.ownsRow X.heap.size 3 1 vp p.length (p.map (Value.int .i64))->p.length<=no->(∃g c,vp=.slice (some ⟨g,0,none⟩) p.length c)->ps++[p] <+:i3->YieldAt Fence.wide 0 Tryz.prog l #[vp] Y λe Z=>(e=.returned (.bool true)/\J (ps++[p]) Z/\KpS x (λk=>k=l) Y Z)∨(e=.returned (.bool false)/\Jx Z/\KpS x (λk=>k=l) Y Z))
 (m:Nat) (ih:∀m',m=m'+1->WkC x nxt no l i3 J Jx m'):WkC x nxt no l i3 J Jx m:=by
 intro p ps X Y vp vb hvv i4 d0 hd i5 l0 i6 g8 b0 l1 o8;have e7:x.n0<=Y.heap.size:=bQ i5 i6.bel.size;have l3:=hx.r;obtain⟨W1,a7⟩:∃W1,W1=(((Y.alloc (.cells #[vp,vb] 120)).alloc (.cells #[hvv] 24)).alloc (.cells #[.func (.yield l) #[] #[]] 60)).alloc (.cells #[.bool false] 4):=⟨_,rfl⟩;have b9:Bl Y W1:=by rw[a7];exact qE (qE (qE (qE (bM _ _) _) _) _) _
 have d7:W1.heap.size=Y.heap.size+4:=by rw[a7];simp
 have e8:Frm Y.heap.size l vp vb hvv W1 false:=by
  rw[a7];have a1:∀(W:World) (o:Obj) (k:Nat),k=W.heap.size->(W.alloc o).heap[k]?=some o:=λW o k hk=>by rw[hk];exact World.alloc_heap_new W o
  have a2:∀(W:World) (o o':Obj) (k:Nat),W.heap[k]?=some o->(W.alloc o').heap[k]?=some o:=λW o o' k hk=>(Below.heap_alloc _ _ _ (qP hk)).trans hk;exact⟨a2 _ _ _ _ (a2 _ _ _ _ (a2 _ _ _ _ (a1 _ _ _ rfl))),a2 _ _ _ _ (a2 _ _ _ _ (a1 _ _ _ Ss)),a2 _ _ _ _ (a1 _ _ _ Ss),a1 _ _ _ Ss⟩
 have l4:KT x.n0 X W1:=i6.trans (KT.of_below b9 e7);obtain⟨fn,tmps,assign,body,hy,hR⟩:=hY ps p vp X W1 l0 l4 (qB b0.pre b9) Oo l1 (qEX d0);have l5:=hid d0;clear d0;have HR:=hid hR;have i7:=hid e8;have o9:=hid b9;have i8:=hid (g8.kt (KT.of_below b9 e7) hx);have g9:=hid (b0.below b9);have c3:=e8.b3.c0;have c5:W1.cell? ⟨Y.heap.size+1+1,0,none⟩=some (.func (.yield l) #[] #[]):=e8.c5;obtain⟨gp,cp,p4⟩:=l1;subst p4;obtain⟨ab,cb,p5⟩:=xJ b0.bel;subst p5;obtain⟨hb,oh,ch,l6,p6,l7,l8⟩:=o8;subst p6;have d8:=hid (And.intro l6 (And.intro l7 l8));clear hR e8 b9 l4 i6 l0 g8 b0 l6 l7 l8;obtain⟨np,i9⟩:∃np,np=p.length:=⟨_,rfl⟩;have s7:=hid i9;refine(callsIn_wide (n:=0)).1 (callsIn_of_wp_marks Tryz.func67 rfl trivial ?_ rfl);simp only[Tryz.ntmps67,List.size_toArray,List.length_cons,List.length_nil,Nat.reduceAdd,Nat.reduceSub,Array.replicate_succ,Array.replicate_zero,List.push_toArray,List.append_toArray,List.nil_append,List.cons_append];refine wpIn_mono (Q:=npQ (bodyPostM Fence.wide 0 Tryz.prog Tryz.f67 (WkE x l J Jx (ps++zE nxt m p) Y))) ?_ npQ.imp;refine(wpIn_wide (n:=0)).2 ?_;obtain⟨E,hE⟩:∃E,E=WkE x l J Jx (ps++zE nxt m p) Y:=⟨_,rfl⟩;rw[<-hE];have l9:Hid (∀Z,J (ps++zE nxt m p) Z->KpS x (λk=>k=l) Y Z->E (.returned (.bool true)) Z):=hid λZ h1 h2=>by rw[hE];exact Or.inl ⟨rfl,h1,h2⟩
 have m0:Hid (∀Z,Jx Z->KpS x (λk=>k=l) Y Z->E (.returned (.bool false)) Z):=hid λZ h1 h2=>by rw[hE];exact Or.inr ⟨rfl,h1,h2⟩
 clear hE;have HJ:=hid hJ;have f4:=hid k9;have HM:=hid hm;have HD:=hid hd;have HX:=hid hx;have HG:=hid hG;have p7:=hid k8;have p8:=hid ih;have HL:=hid hl;have I:=hid e7;have m1:=hid i5;have s8:=hid d7;have a5:=hid l3;have m2:=hid i4;have hlen:no - p.length=m:=Oo;clear hJ k9 hm hd hx hG k8 ih hl e7 hY i5 d7 l3 i4;rw[hlen]at a7 i7 d8 ⊢;clear hlen;rw[<-i9]at c3 hy g9 i7 a7 ⊢;clear i9;go_upto_region 1 with fail
 rw[<-a7];clear a7;refine(wpIn_wide (n:=0)).1 ?_;gi_wp2
 refine⟨rfl,?_⟩;refine HR.out.mono ?_;rintro e O m3
 have a3:KpS x (λk=>k=l) W1 O:=by
  rcases m3 with ⟨-,-,h⟩|⟨-,-,h⟩
  ·exact h
  ·exact h
 have a6:=hid (i7.out.kp a3 HX.out i8.out.ty I.out);have m4:Hid (KpS x (λk=>k=l) Y O):=hid ((KpS.of_below o9.out (by have:=I.out;have:=a5.out;omega)).trans a3);have f7:=hid (i8.out.kp a3 HX.out);have p9:=hid (g9.out.sb (a3.sb HX.out i8.out.ty) (by have:=m1.out;exact this));have f8:Hid (Y.heap.size+3 < O.heap.size):=hid a6.out.lt;have d6:O.cell? ⟨Y.heap.size+1+1+1,0,none⟩=some (.bool false):=a6.out.c6;have f6:O.frozen? ⟨Y.heap.size+1+1+1,0,none⟩=false:=a6.out.f6;clear hy c3 c5 HR
 have a4:Hid (∀r:Bool,KT x.n0 O (O.setCell ⟨Y.heap.size+1+1+1,0,none⟩ (.bool r))/\KpS x (λk=>k=l) Y (O.setCell ⟨Y.heap.size+1+1+1,0,none⟩ (.bool r))/\(O.setCell ⟨Y.heap.size+1+1+1,0,none⟩ (.bool r)).cell? ⟨Y.heap.size+1+1+1,0,none⟩=some (.bool r)):=hid λr=>by
  obtain⟨h1,h2⟩:=a6.out.set r;exact⟨h2.mono (by have:=I.out;omega),m4.out.kt (h2.mono Oo) (by have:=I.out;have:=a5.out;omega),h1.c6⟩
 rcases m3 with ⟨rfl,m5,-⟩|⟨rfl,m6,-⟩
 ·have m7:=hid m5;clear m5 a3;have d4:O.cell? ⟨Y.heap.size+1,0,none⟩=some (.slice (some ⟨hb,oh,none⟩) m ch):=a6.out.c4;gi_wp2
  cases m with
  |zero=>
   have r6:=(a4.out true).2.2;have V:=hid (l9.out _ (HJ.out _ _ _ m7.out (a4.out true).1) (a4.out true).2.1);go_wp2_with fail
   exact⟨.bool true,by simp[results,Tryz.results67,go_sem,r6],V.out⟩
  |succ m=>
   have q0:(((m+1:Nat):Int) == 0)=false:=by simp;omega
   have b7:p.length < no:=by have:=m2.out;omega
   obtain⟨av,cv,f9⟩:=xJ (f7.out.hq.each p.length (by rw[HM.out.hl];exact b7));have g4:=HVs.cell HM.out f7.out b7 d8.out.1;have j0:oh=p.length:=d8.out.2.1 Oo;obtain⟨nv,m8⟩:∃nv,nv=(x.hav.getD p.length []).length:=⟨_,rfl⟩;rw[<-m8]at f9;rw[f9]at g4;rw[<-j0]at g4;have q1:=hid j0;have q3:=hid f9;clear j0 f9 m8;have j4:Hid (∀W,Bl O W->W.cell? ⟨Y.heap.size,0,none⟩=some (.slice (some ⟨gp,0,none⟩) np cp)/\W.cell? ⟨Y.heap.size,1,none⟩=some (.slice ab x.nT cb)/\W.cell? ⟨Y.heap.size+1,0,none⟩=some (.slice (some ⟨hb,oh,none⟩) (m+1) ch)/\W.cell? ⟨hb,oh,none⟩=some (.slice av nv cv)/\Bl O W):=hid λW hW=>⟨(a6.out.b3.below hW).c0,(a6.out.b3.below hW).c1,uE hW d4,uE hW g4,hW⟩;have i1:(0:Int) < (((m+1:Nat)):Int):=Oo;go_upto_region 5 with fail
   clear d4 g4
   go_region_held_law (λW=>W.cell? ⟨Y.heap.size,0,none⟩=some (.slice (some ⟨gp,0,none⟩) np cp)/\W.cell? ⟨Y.heap.size,1,none⟩=some (.slice ab x.nT cb)/\W.cell? ⟨Y.heap.size+1,0,none⟩=some (.slice (some ⟨hb,oh,none⟩) (m+1) ch)/\W.cell? ⟨hb,oh,none⟩=some (.slice av nv cv)/\Bl O W)
    (first|(with_reducible exact j4.out _ (bM _ _).drew)|(with_reducible exact j4.out _ q4)|(with_reducible exact j4.out _ (xU (qE (qE (bM _ _) _) _)))|fail)
    (first
     |(go_simp;go_at_call 108;refine(Uh _ _ _ _ _ _ _ _ _ _).mono ?_;rintro e w2 ⟨rfl,q6⟩;have q4:Bl O w2:=(by rw[q6];exact qE (qE (bM _ _).drew _) _))
     |fail)
   go_wp2_with fail
   obtain⟨Wl,c8⟩:∃Wl,Wl=((O.alloc (.cells #[(.slice (some ⟨gp,0,none⟩) np cp),(.slice ab x.nT cb)] 120)).alloc (.cells #[.slice av nv cv] 25)).drew:=⟨_,rfl⟩;rw[<-c8];have g5:Bl O Wl:=by rw[c8];exact xU (qE (qE (bM _ _) _) _)
   have m9:Wl.heap.size=O.heap.size+2:=by rw[c8];show((O.alloc _).alloc _).heap.size=_;simp
   have q7:BrX Wl O.heap.size (.slice (some ⟨gp,0,none⟩) np cp) (.slice ab x.nT cb):=by rw[c8];exact(Below.heap_alloc _ _ _ Ss).trans (World.alloc_heap_new O _)
   have q8:Wl.heap[O.heap.size+1]?=some (.cells #[.slice av nv cv] 25 (0,0)):=by
    rw[c8];have:=World.alloc_heap_new (O.alloc (.cells #[(.slice (some ⟨gp,0,none⟩) np cp),(.slice ab x.nT cb)] 120)) (.cells #[.slice av nv cv] 25);rw[World.size_alloc]at this;exact this
   have n3:x.n0<=O.heap.size:=by have:=f8.out;have:=I.out;omega
   have j5:KT x.n0 O Wl:=KT.of_below g5 n3;have n4:=f7.out.kt j5 HX.out;have q9:=(p9.out.below g5);have r0:¬RBk x Wl (O.heap.size+1):=qFh f7.out.ty (j5.bel.block _ a5.out) (Nat.le_succ _)
   have g6:WI x l (λW=>J (ps++[p]++([]:List Int).flatMap λy=>zE nxt m (p++[y])) W) Y (.slice (some ⟨gp,0,none⟩) np cp) (.slice ab x.nT cb) (.slice (some ⟨hb,oh,none⟩) (m+1) ch) Wl:=by
    refine⟨?_,m4.out.kt (KT.of_below g5 (by have:=f8.out;omega):KT Y.heap.size O Wl) (by have:=I.out;have:=a5.out;omega),a6.out.bel g5 (by have:=f8.out;omega),n4⟩;have:=HJ.out _ _ _ m7.out j5;simpa using this
   have hg:=HG.out Wl O.heap.size (O.heap.size+1) (.slice (some ⟨gp,0,none⟩) np cp) (.slice ab x.nT cb) p b7 HD.out n4 (q9.base m1.out) q7 n3 (by rw[q3.out];exact q8) Oo r0;have d9:Y.heap.size+3 < Wl.heap.size:=by have:=f8.out;omega
   have e0:x.n0<=Wl.heap.size:=Oo;have s9:x.r < Wl.heap.size:=by have:=a5.out;omega
   clear c8;have t0:=hid m9;clear m9;obtain⟨II,a8⟩:∃II:List Int->World->Prop,II=λpre W=>WI x l (λW=>J (ps++[p]++pre.flatMap λy=>zE nxt m (p++[y])) W) Y (.slice (some ⟨gp,0,none⟩) np cp) (.slice ab x.nT cb) (.slice (some ⟨hb,oh,none⟩) (m+1) ch) W:=⟨_,rfl⟩;obtain⟨IX,c9⟩:∃IX:Code->World->Prop,IX=λc W=>c=.ret/\Jx W/\KpS x (λk=>k=l) Y W/\W.cell? ⟨Y.heap.size+1+1+1,0,none⟩=some (.bool false):=⟨_,rfl⟩;have n5:=hid a8;have r1:=hid c9;refine(wpIn_wide (n:=0)).1 ?_
   refine QM (α:=Int) (β:=Value×Value) (gf:=129) (lb:=#[.pointer (some ⟨O.heap.size,0,none⟩),.pointer (some ⟨O.heap.size+1,0,none⟩)]) rfl (enters_of Tryz.func129 (by kernel_rfl) rfl) hg (λ_=>rfl)
    (λh1 h2=>KpS.trans h1 h2) (λl2 W o o' h1 h2 h3=>KpS.put (Or.inr rfl) h2 h3 Oo) (λ_ _ _=>trivial)
    II IX
    (λs A C hA hk=>by rw[a8]at hA ⊢;exact WI.kt hA HX.out I.out (HJ.out _) hk d9)
    (λc A C hA hk=>by rw[c9]at hA ⊢;exact⟨hA.1,f4.out _ _ hA.2.1 (hk.mono e0),hA.2.2.1.kt (hk.mono Oo) (by have:=I.out;have:=a5.out;omega),(hk.bel.cell (p:=⟨Y.heap.size+1+1+1,0,none⟩) d9).trans hA.2.2.2⟩)
    (by rw[a8];exact g6)
    (λl2 pre y b a' W=>∃bq,WA x l (λW=>J (ps++[p]++pre.flatMap λy=>zE nxt m (p++[y])) W) Y (.slice (some ⟨gp,0,none⟩) np cp) (.slice ab x.nT cb) (.slice (some ⟨hb,oh,none⟩) (m+1) ch) p y b.1 b.2 bq W/\pre++[y] <+:nxt p/\(∃g c,b.1=.slice (some ⟨g,0,none⟩) (p.length+1) c)/\(∃g c,b.2=.slice (some ⟨g,0,none⟩) x.nT c)/\a'={ tmps:=#[.agg #[(.slice (some ⟨gp,0,none⟩) np cp),(.slice ab x.nT cb)],(.slice (some ⟨hb,oh,none⟩) (m+1) ch),.func (.yield l) #[] #[],.pointer (some ⟨Y.heap.size,0,none⟩),.pointer (some ⟨Y.heap.size+1,0,none⟩),.pointer (some ⟨Y.heap.size+1+1,0,none⟩),.pointer (some ⟨Y.heap.size+1+1+1,0,none⟩),.pointer (some ⟨bq,0,none⟩),.func (.yield l) #[] #[],.pointer (some ⟨Y.heap.size,0,none⟩),(.slice (some ⟨gp,0,none⟩) np cp),.bool true,.bool false,(.slice (some ⟨hb,oh,none⟩) (m+1) ch),.int .i64 ((m:Int)+1),.bool false,.agg #[(.slice (some ⟨gp,0,none⟩) np cp),(.slice ab x.nT cb)],(.slice (some ⟨hb,oh,none⟩) (m+1) ch),.pointer (some ⟨hb,oh,none⟩),.slice av nv cv,.func (.func 129) #[] #[.pointer (some ⟨O.heap.size,0,none⟩),.pointer (some ⟨O.heap.size+1,0,none⟩)],.agg #[b.1,b.2],undef,undef,undef,undef,undef,undef],defers:=[] })
    (λl2 pre y b a' W o o' ⟨bq,h1,h2⟩ j6 h3 h4=>⟨bq,h1.kt HX.out I.out (KT.put (B:=Wl.heap.size) o' j6 h3 h4) d9,h2⟩)
    ?assign ?body ?done ?stop
   case assign=>
    rintro l2 pre y ⟨b1,b2⟩ A C K j6 hI hk ⟨n6,g7,⟨g1,c1,e1⟩,⟨g2,c2,e2⟩⟩ ⟨rr,k0⟩ hK;dsimp only at e1 e2 n6;subst e1 e2;rw[n5.out]at hI;have r2:=WI.kt hI HX.out I.out (HJ.out _) hk d9;have r3:Wl.heap.size<=C.heap.size:=by have:=qP k0;omega
    have k1:Bl C (C.alloc (.cells #[.slice (some ⟨g1,0,none⟩) (p.length+1) c1,.slice (some ⟨g2,0,none⟩) x.nT c2] 120)):=(bM _ _).alloc (bK _) _;have n8:=KT.of_below k1 r3;have e3:=r2.kt HX.out I.out (HJ.out _) n8 d9;have r4:x.n0<=A.heap.size:=by have:=hI.fr.lt;have:=I.out;omega
    dsimp only[qAq];gi_wp2
    exact hK _ _ ((KeepsOthers.alloc _ _).from _) (KpS.of_below k1 Oo) ⟨C.heap.size,⟨e3.kp,e3.fr,e3.dat,BrX.new C _ _,A,hI.j,(hk.mono e0).trans (n8.mono e0),r4,n6.below k1⟩,g7,⟨g1,c1,rfl⟩,⟨g2,c2,rfl⟩,rfl⟩
   case body=>
    rintro l2 pre y ⟨b1,b2⟩ a' W j6 ⟨rr,k0⟩ ⟨bq,M,g7,⟨g1,c1,e1⟩,⟨g2,c2,e2⟩,rfl⟩;dsimp only at e1 e2 M;subst e1 e2;have c7:=M.bx.c0;have t1:=M.bx.c1;have c4:W.cell? ⟨Y.heap.size+1,0,none⟩=some (.slice (some ⟨hb,oh,none⟩) (m+1) ch):=M.fr.c4;have c5:W.cell? ⟨Y.heap.size+1+1,0,none⟩=some (.func (.yield l) #[] #[]):=M.fr.c5;have c6:W.cell? ⟨Y.heap.size+1+1+1,0,none⟩=some (.bool false):=M.fr.c6;have f6:W.frozen? ⟨Y.heap.size+1+1+1,0,none⟩=false:=M.fr.f6;have t2:=hid M;have s5:Tryz.prog.follows .mixedOrders=true:=by kernel_rfl
    have j1:(1:Int)<=(((m+1:Nat)):Int):=Oo;have t3:=d8.out.2.2;have j2:(1:Int)<=(ch:Int):=Oo;have j3:(((m+1:Nat)):Int)<=(ch:Int):=Oo;have s6:=qP k0;have n9:x.r < W.heap.size:=Oo;have e4:Bl W W.drew:=(bM _ _).drew;have k4:KT x.n0 W W.drew:=KT.of_below e4 Oo
    have KW:Hid (∀o c,(0 < m->o=oh+1)->m<=c->Cl 67 #[.agg #[.slice (some ⟨g1,0,none⟩) (p.length+1) c1,.slice (some ⟨g2,0,none⟩) x.nT c2],.slice (some ⟨hb,o,none⟩) m c,.func (.yield l) #[] #[]] W.drew λe U=>∃r:Bool,e=.returned (.bool r)/\Hid ((r=true/\J (ps++[p]++pre.flatMap (λy=>zE nxt m (p++[y]))++zE nxt m (p++[y])) U/\KpS x (λk=>k=l) W.drew U)∨(r=false/\Jx U/\KpS x (λk=>k=l) W.drew U))):=hid λo c h1 h2=>by
     obtain⟨A,r5,r7,r8,r9⟩:=M.src;have e5:(p++[y]).length=p.length+1:=Ss;have i4:=m2.out
     refine Calls.mono (R:=WkE x l J Jx (ps++[p]++pre.flatMap (λy=>zE nxt m (p++[y]))++zE nxt m (p++[y])) W.drew) ?_ (λe U h=>by
      rcases h with ⟨rfl,h4,h5⟩|⟨rfl,h4,h5⟩
      ·exact⟨true,rfl,hid (Or.inl ⟨rfl,h4,h5⟩)⟩
      ·exact⟨false,rfl,hid (Or.inr ⟨rfl,h4,h5⟩)⟩)
     refine p8.out m rfl (p++[y]) _ A W.drew _ _ _ (by rw[e5];omega) (qEY l5.out g7) (p7.out p b7 HD.out y (g7.subset Ss)) r8 r5 (r7.trans k4) (M.dat.kt k4 HX.out) (r9.below e4) ⟨g1,c1,by rw[e5]⟩ ⟨hb,o,c,d8.out.1,by rw[e5,show no - (p.length+1)=m by omega],λh3=>?_,by rw[e5];omega⟩;rw[e5]at h3 ⊢;rw[h1 Oo,q1.out]
    have o2:Hid (∀U,J (ps++[p]++pre.flatMap (λy=>zE nxt m (p++[y]))++zE nxt m (p++[y])) U->KpS x (λk=>k=l) W.drew U->KeepsFrom Wl.heap.size W U/\KpB x l l2 W U/\II (pre++[y]) U):=hid λU h1 h2=>by
     rw[n5.out];have h3:KpS x (λk=>k=l) W U:=(KpS.of_below e4 n9).trans h2;refine⟨h3.keeps HX.out M.dat.ty e0 (by have:=HL.out;omega),h3.sub λk hk=>Or.inl hk,?_,M.kp.trans h3,M.fr.kp h3 HX.out M.dat.ty I.out,M.dat.kp h3 HX.out⟩;show J (ps++[p]++(pre++[y]).flatMap λy=>zE nxt m (p++[y])) U;rw[List.flatMap_append,List.flatMap_singleton,<-List.append_assoc];exact h1
    have i0:Hid (∀U,Jx U->KpS x (λk=>k=l) W.drew U->U.cell? ⟨Y.heap.size+1+1+1,0,none⟩=some (.bool false)/\U.frozen? ⟨Y.heap.size+1+1+1,0,none⟩=false/\KeepsFrom Wl.heap.size W (U.setCell ⟨Y.heap.size+1+1+1,0,none⟩ (.bool false))/\IX .ret (U.setCell ⟨Y.heap.size+1+1+1,0,none⟩ (.bool false))):=hid λU h1 h2=>by
     have h3:KpS x (λk=>k=l) W U:=(KpS.of_below e4 n9).trans h2;have h4:=M.fr.kp h3 HX.out M.dat.ty I.out;obtain⟨h5,h6⟩:=h4.set false;have h7:=(M.kp.trans h3).kt (h6.mono Oo) (by have:=I.out;have:=a5.out;omega);rw[r1.out];refine⟨h4.c6,h4.f6,?_,rfl,f4.out _ _ h1 (h6.mono (by have:=I.out;omega)),h7,h5.c6⟩;have h8:=h3.keeps HX.out M.dat.ty e0 (by have:=HL.out;omega);exact⟨bQ h8.size h6.bel.size,λk o hk h0 ho=>(bE _ _ _ _ (by show k≠Y.heap.size+3;omega)).trans (h8.same k o hk h0 ho)⟩
    clear M e4 k4 a8 c9 g6;by_cases t4:ch=1
    ·have o3:m=0:=Oo;have o4:=hid o3;clear o3;gi_wp2
     gi_region_with_o (refine⟨trivial,rfl,?_⟩;refine(CallsIn.inRound l2 (callsIn_wide.2 (KW.out oh 0 (λh=>by have:=o4.out;omega) (by have:=o4.out;omega)))).mono ?_;rintro e U ⟨rb,rfl,k5⟩)
     all_goals(first
      |(rcases k5.out with ⟨rfl,k7,a9⟩|⟨rfl,e6,a9⟩
        ·obtain⟨p1,p2,p3⟩:=o2.out U k7 a9
         gi_wp2
         exact⟨p1,p2,p3⟩
        ·obtain⟨s1,s2,p1,p2⟩:=i0.out U e6 a9
         gi_wp2
         exact⟨p1,trivial,p2⟩))
    ·have i2:m<=ch - 1:=Oo;have s3:=hid i2;clear i2;gi_wp2
     gi_region_with_o (refine⟨trivial,rfl,?_⟩;refine(CallsIn.inRound l2 (callsIn_wide.2 (KW.out (oh+1) (ch - 1) (λ_=>rfl) s3.out))).mono ?_;rintro e U ⟨rb,rfl,k5⟩)
     all_goals(first
      |(rcases k5.out with ⟨rfl,k7,a9⟩|⟨rfl,e6,a9⟩
        ·obtain⟨p1,p2,p3⟩:=o2.out U k7 a9
         gi_wp2
         exact⟨p1,p2,p3⟩
        ·obtain⟨s1,s2,p1,p2⟩:=i0.out U e6 a9
         gi_wp2
         exact⟨p1,trivial,p2⟩))
   case done=>
    intro D W hD hI hK;rw[a8]at hI;have s4:D≠Y.heap.size+3:=Oo;obtain⟨d7,o5⟩:=hI.fr.set true;have o6:(W.setCell ⟨Y.heap.size+1+1+1,0,none⟩ (.bool true)).heap[D]?=some (.deferred (some [])):=(bE _ _ _ _ (by exact s4)).trans hK;have hp:=KT.put (B:=Y.heap.size) (.deferred none) Oo o6 rfl;have o7:KT Y.heap.size W ((W.setCell ⟨Y.heap.size+1+1+1,0,none⟩ (.bool true)).putObj D (.deferred none)):=(o5.mono Oo).trans hp;have r6:((W.setCell ⟨Y.heap.size+1+1+1,0,none⟩ (.bool true)).putObj D (.deferred none)).cell? ⟨Y.heap.size+1+1+1,0,none⟩=some (.bool true):=(bF (w:=W.setCell ⟨Y.heap.size+1+1+1,0,none⟩ (.bool true)) (a:=⟨Y.heap.size+1+1+1,0,none⟩) (World.putObj_heap_other (by show Y.heap.size+1+1+1≠D;omega))).trans d7.c6
    have V:Hid (E (.returned (.bool true)) ((W.setCell ⟨Y.heap.size+1+1+1,0,none⟩ (.bool true)).putObj D (.deferred none))):=hid (l9.out _ (by
     have h9:=HJ.out _ _ _ hI.j (o7.mono I.out);have e9:ps++zE nxt (m+1) p=ps++[p]++(nxt p).flatMap λy=>zE nxt m (p++[y]):=by rw[List.append_assoc];rfl
     rw[e9];exact h9) (hI.kp.kt o7 (by have:=I.out;have:=a5.out;omega)))
    have w6:W.cell? ⟨Y.heap.size+1+1+1,0,none⟩=some (.bool false):=hI.fr.c6;have wf:W.frozen? ⟨Y.heap.size+1+1+1,0,none⟩=false:=hI.fr.f6;simp only[Exit.inBlock,Exit.then];clear hI a8 c9 g6 d7 o5;go_wp2_with fail
    exact⟨Ss,Or.inl ⟨D,_,rfl,run_takeDeferred o6,.bool true,by simp[results,Tryz.results67,go_sem,r6],V.out⟩⟩
   case stop=>
    intro D c W hD hI hK;rw[c9]at hI;obtain⟨rfl,h1,h2,h3⟩:=hI;have hp:=KT.put (B:=Y.heap.size) (.deferred none) Oo hK rfl;have r6:(W.putObj D (.deferred none)).cell? ⟨Y.heap.size+1+1+1,0,none⟩=some (.bool false):=(bF (w:=W) (a:=⟨Y.heap.size+1+1+1,0,none⟩) (World.putObj_heap_other (by show Y.heap.size+1+1+1≠D;omega))).trans h3;have V:=hid (m0.out _ (f4.out _ _ h1 (hp.mono I.out)) (h2.kt hp (by have:=I.out;have:=a5.out;omega)));clear h1 h2 h3 a8 c9 g6;gi_wp2
    exact⟨Ss,Or.inl ⟨D,_,rfl,run_takeDeferred hK,.bool false,by simp[results,Tryz.results67,go_sem,r6],V.out⟩⟩
 ·have r6:=(a4.out false).2.2;have V:=hid (m0.out _ (f4.out _ _ m6 (a4.out false).1) (a4.out false).2.1);clear a3;gi_wp2
  go_wp2_with fail
  exact⟨.bool false,by simp[results,Tryz.results67,go_sem,r6],V.out⟩
theorem Z6(x:JX)(U:x.Ok)(nxt:List Int->List Int)(no:Nat)(V:JMx x nxt no)(K:∀p,p.length < no->x.Hd p->∀y∈nxt p,x.Hd (p++[y]))(l:Nat)(hl:l < x.n0)(hG:LgG x nxt no l)(I:List (List Int))(J:List (List Int)->World->Prop)(M:World->Prop)
 (hJ:∀s X Y,J s X->KT x.n0 X Y->J s Y) (O:∀X Y,M X->KT x.n0 X Y->M Y)
 (hY:∀ps p vp X Y,J ps X->KT x.n0 X Y->Y.ownsRow X.heap.size 3 1 vp p.length (p.map (Value.int .i64))->p.length<=no->(∃g c,vp=.slice (some ⟨g,0,none⟩) p.length c)->ps++[p] <+:I->YieldAt Fence.wide 0 Tryz.prog l #[vp] Y λe Z=>(e=.returned (.bool true)/\J (ps++[p]) Z/\KpS x (λk=>k=l) Y Z)∨(e=.returned (.bool false)/\M Z/\KpS x (λk=>k=l) Y Z)):
 ∀m,WkC x nxt no l I J M m
 |0=>Yk x U nxt no V K l hl hG I J M hJ O hY 0 λm' h=>Oo
 |m+1=>Yk x U nxt no V K l hl hG I J M hJ O hY (m+1) λm' h=>by
  obtain rfl:m'=m:=Oo;exact Z6 x U nxt no V K l hl hG I J M hJ O hY m'
end Go.Proofs.YtkaipapdlnojiaaGreat
