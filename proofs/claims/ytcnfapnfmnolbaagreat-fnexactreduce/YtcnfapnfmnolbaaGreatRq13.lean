import Derived.Deep.CutBlock
import Derived.Deep.DeepCutAuto
import Derived.Deep.RegionHeldLaw
import Derived.Laws.Bits64b
import Derived.Laws.CopyOwn
import Derived.Laws.MakeOwn
import Derived.Laws.OwnMore
import Derived.RangeFuncBound
import Derived.RangeFuncCalls
import Derived.RangeFuncLeaves
import Derived.RangeFuncNested
import Derived.Test.YtcnfapnfmnolbaaGreatRq11
import Derived.Test.YtcnfapnfmnolbaaGreatRq12
set_option maxHeartbeats 40000000
set_option maxRecDepth 1000000
namespace Go.Proofs.YtcnfapnfmnolbaaGreat
open Go.RowKit
variable {I q vars vb vs:LI}{ls rows:LL}{us xs:List Value}{B B' c i j k l m n off s:Nat}{p:Nat->Bool}{o:Obj}{e:TypeId}{vp x y:Value}{A W X Y w:World}
structure KT(B:Nat)(W W':World):Prop where
 bel:Below B W W'
 cel:∀(k:Nat) (cur:Array Value) (ty:TypeId) (z:Nat×Nat),W.1[k]?=some (Obj.cells cur ty z)->ty≠176->ty≠4->W'.1[k]?=W.1[k]?
theorem KT.refl(B:Nat)(W:World):KT B W W:=⟨bJ _ _,λ_ _ _ _ _ _ _=>rfl⟩
theorem KT.trans{Z:World}(h:KT B X Y)(k:KT B Y Z):KT B X Z:=
 ⟨h.bel.trans k.bel,λi cur ty z hi I K=>(k.cel i cur ty z ((h.cel i cur ty z hi I K).trans hi) I K).trans (h.cel i cur ty z hi I K)⟩
theorem KT.mono(h:KT B X Y)(hB:B'<=B):KT B' X Y:=⟨h.bel.mono hB,h.cel⟩
theorem qW(h:W.1[k]?=some o):k<W.1.size:=(Array.getElem?_eq_some_iff.1 h).1
theorem KT.of_below(h:Bl X Y)(hB:B<=X.1.size):KT B X Y:=⟨h.mono hB,λk _ _ _ I _ _=>h.block k (qW I)⟩
theorem KT.put(K:Obj)(hl:B<=l)(h:X.1[l]?=some o)(M:o.isCells=false):KT B X (X.putObj l K):=by
 refine⟨⟨rfl,rfl,rfl,Ss,λk I=>World.putObj_heap_other Oo⟩,λk cur ty z I _ _=>World.putObj_heap_other λe=>?_⟩;subst e;rw[h]at I;cases I
 cases M
theorem KT.set{b o:Nat}{cur:Array Value}{ty:TypeId}{z:Nat×Nat}(v:Value)(hb:B<=b)(h:X.1[b]?=some (Obj.cells cur ty z))(M:ty=176∨ty=4):KT B X (X.setCell (az b o) v):=by
 refine⟨(bJ _ _).setCell hb _,λk I O z' K U V=>bD _ _ _ _ λe=>?_⟩;have e':k=b:=e;subst e';rw[h]at K;cases K
 rcases M with rfl|rfl;exact U rfl;exact V rfl
def Gives{α β:Type}(P:Program)(gf:Nat)(lb:Array Value)(encs:β->Array Value)(Kp Kx:Nat->World->World->Prop)(Pre:List α->α->β->World->World->Prop)(xs:List α)(w:World):Prop:=
 ∀(l:Nat) (J:List α->World->Prop) (Jx:World->Prop) (W:World),Bl w W->l<W.1.size->w.1.size<=l->
  (∀s X Y,J s X->KT W.1.size X Y->J s Y)->(∀X Y,Jx X->KT W.1.size X Y->Jx Y)->
  (∀pre x b X Y,J pre X->KT W.1.size X Y->Pre pre x b X Y->YieldAt Fence.wide 0 P l (encs b) Y λe Z=>(e=.returned (.bool true)/\J (pre++[x]) Z/\Kp l Y Z)∨(e=.returned (.bool false)/\Jx Z/\Kx l Y Z))->
  J [] W->Calls P gf (#[.func (.yield l) #[] #[]]++lb) W λe W'=>(∃v,e=.returned v)/\(J xs W'∨Jx W')
def qGa{α:Type}(B:Nat)(Kp Kx:World->World->Prop)(I:List α->World->Prop)(Ix:Code->World->Prop)(ys:List α)(W:World):Exit->Act->World->Prop
 | .normal,_,W'=>KeepsFrom B W W'/\Kp W W'/\I ys W'
 | .ret,_,W'=>KeepsFrom B W W'/\Kx W W'/\Ix .ret W'
 | .exit id,_,W'=>KeepsFrom B W W'/\Kx W W'/\Ix (.exit id) W'
 |_,_,_=>False
theorem qFQ(k:Nat):Fence.wide.depth.isSome=true->1<=k:=λh=>by cases h
theorem jh{α β:Type}{P:Program}{g:Operand}{ps:Array Tmp}{assign body:Code}{Q:Exit->Act->World->Prop}{a:Act}{gf:Nat}{lb:Array Value}
 (hg:a.eval g=.func (.func gf) #[] lb) (eg:∀args W,(callFunc gf args).run P W=.ok (.enter gf args) W)
 {O:β->Array Value} {Kp Kx:Nat->World->World->Prop} {c8:List α->α->β->World->World->Prop} {xs:List α} (c9:Gives P gf lb O Kp Kx c8 xs w) (d5:∀b,(O b).size=ps.size)
 (a8:∀{l:Nat} {X Y Z:World},Kp l X Y->Kp l Y Z->Kp l X Z) (a6:∀(l:Nat) (W:World) (o o':Obj),w.1.size<=l->W.1[l]?=some o->o.isCells=false->Kp l W (W.putObj l o'))
 (d0:∀{l:Nat} {X Y Z V:World},Kp l X Y->Kx l Y Z->Kp l Z V->Kx l X V)
 (I:List α->World->Prop) (Ix:Code->World->Prop) (hI:∀s X Y,I s X->KT w.1.size X Y->I s Y) (a7:∀c X Y,Ix c X->KT w.1.size X Y->Ix c Y) (h0:I [] w)
 (Ax:Nat->List α->α->β->Act->World->Prop) (d6:∀l pre x b a' W o o',Ax l pre x b a' W->w.1.size<=l->W.1[l]?=some o->o.isCells=false->Ax l pre x b a' (W.putObj l o'))
 (a4:∀(l:Nat) (pre:List α) (x:α) (b:β) (X Y:World) (K:Act->World->Prop),w.1.size<=l->I pre X->KT w.1.size X Y->c8 pre x b X Y->(∃r,Y.1[l]?=some (.loop r))->
  (∀a' W',KeepsFrom w.1.size Y W'->Kp l Y W'->Ax l pre x b a' W'->K a' W')->
  assign.wpIn (Fence.wide.inRound l) 0 P (Exit.then K (λ_ _ _=>False)) { tmps:=(ps.zip (O b)).foldl (λt (p,v)=>t.setIfInBounds p v) a.tmps,defers:=[] } Y)
 (a9:∀(l:Nat) (pre:List α) (x:α) (b:β) (a':Act) (W:World),w.1.size<=l->(∃r,W.1[l]?=some (.loop r))->Ax l pre x b a' W->body.wpIn (Fence.wide.inRound l) 0 P (qGa w.1.size (Kp l) (Kx l) I Ix (pre++[x]) W) a' W)
 (b0:∀(D:Nat) (W:World),w.1.size<=D->I xs W->W.1[D]?=some (.deferred (some []))->Q .normal { a with defers:={ target:=.collected D,args:=#[] }::a.defers } W)
 (b7:∀(D:Nat) (c:Code) (W:World),w.1.size<=D->Ix c W->W.1[D]?=some (.deferred (some []))->c.wpIn Fence.wide 0 P Q { a with defers:={ target:=.collected D,args:=#[] }::a.defers } W):
 (Code.rangeFunc g ps assign body).wpIn Fence.wide 0 P Q a w:=by
 refine wpIn_rangeFunc λfn d7=>?_;obtain⟨rec,M⟩:=Ex (λst pe=>{ state:=st,pending:=pe,fn,tmps:=a.tmps,params:=ps,assign,body,defers:=w.1.size }:LoopState->Option Code->Loop);obtain⟨U,a5⟩:=Ex ((w.alloc (.deferred (some []))).alloc (.loop (rec .ready none)));have e2:U.1.size=w.1.size+2:=by rw[a5];simp
 have d1:Bl w U:=by rw[a5];exact(aK).alloc Ss _
 have d2:U.1[w.1.size+1]?=some (.loop (rec .ready none)):=by
  rw[a5];have:=World.alloc_heap_new (w.alloc (.deferred (some []))) (.loop (rec .ready none));rwa[World.size_alloc]at this
 have d8:U.1[w.1.size]?=some (.deferred (some [])):=by
  rw[a5];exact(Below.heap_alloc _ _ _ Ss).trans (World.alloc_heap_new w _)
 obtain⟨l,hl⟩:=Ex (w.1.size+1);rw[<-hl]at d2;have two:∀{X Y:World} {r:Loop},KT U.1.size X Y->X.1[l]?=some (.loop r)->X.1[w.1.size]?=some (.deferred (some []))->Y.1[l]?=some (.loop r)/\Y.1[w.1.size]?=some (.deferred (some [])):=λ{X Y r} hk h1 h2=>
  ⟨(hk.bel.block _ Oo).trans h1,(hk.bel.block _ Oo).trans h2⟩
 have b8:∀{X Y:World},KT U.1.size X Y->KT w.1.size X Y:=λh=>h.mono Oo;have b9:=c9 l (λpre W=>I pre W/\W.1[l]?=some (.loop (rec .ready none))/\W.1[w.1.size]?=some (.deferred (some [])))
  (λW=>∃c,Ix c W/\W.1[l]?=some (.loop (rec .done (some c)))/\W.1[w.1.size]?=some (.deferred (some []))) U d1 Oo Oo
  (λs X Y hs hk=>⟨hI s X Y hs.1 (b8 hk),two hk hs.2.1 hs.2.2⟩)
  (λX Y hs hk=>by
   obtain⟨c,hc,h1,h2⟩:=hs;exact⟨c,a7 c X Y hc (b8 hk),two hk h1 h2⟩)
  (λpre x b X Y hs hk hp=>by
   obtain⟨hi,h1,h2⟩:=hs;obtain⟨g1,g2⟩:=two hk h1 h2;have hy:=run_yield (P:=P) (args:=O b) g1 (by rw[M];exact d5 b);rw[M]at hy;refine⟨fn,_,assign,body,hy,roundIn_of_wpIn d7 (a4 l pre x b X Y _ Oo hi (b8 hk) hp ⟨_,g1⟩ ?_)⟩;clear hy;intro a' W' d3 d9 e0;have f1:=d3.same _ _ Oo g1 rfl;have f2:=d3.same _ _ (nR _) g2 rfl;have e1:=qW f1;refine⟨_,run_beginRound f1 (by rw[M]),?_⟩;have b1:(W'.putObj l (.loop { rec .ready none with state:=.busy })).1[l]?=some (.loop { rec .ready none with state:=.busy }):=World.putObj_heap_same e1;have b2:(W'.putObj l (.loop { rec .ready none with state:=.busy })).1[w.1.size]?=some (.deferred (some [])):=(World.putObj_heap_other Oo).trans f2;have c7:=a8 d9 (a6 l W' _ (.loop { rec .ready none with state:=.busy }) Oo f1 rfl);refine wpIn_mono (a9 l pre x b a' _ Oo ⟨_,b1⟩ (d6 l pre x b a' W' _ _ e0 Oo f1 rfl)) ?_;have fin:∀(jump:Option Code) (W3:World),KeepsFrom w.1.size (W'.putObj l (.loop { rec .ready none with state:=.busy })) W3->
    (Instr.endRound l jump).run P W3=.ok (.bool jump.isNone) (W3.putObj l (.loop (rec (if jump.isNone then .ready else .done) jump)))/\W3.1[l]?=some (.loop { rec .ready none with state:=.busy })/\
    (W3.putObj l (.loop (rec (if jump.isNone then .ready else .done) jump))).1[l]?=some (.loop (rec (if jump.isNone then .ready else .done) jump))/\
    (W3.putObj l (.loop (rec (if jump.isNone then .ready else .done) jump))).1[w.1.size]?=some (.deferred (some [])):=λjump W3 d4=>by
    have c1:=d4.same _ _ Oo b1 rfl;have c2:=d4.same _ _ (nR _) b2 rfl;have hr:=run_endRound (P:=P) jump c1;rw[M]at hr ⊢;exact⟨hr,by rw[M]at c1;exact c1,World.putObj_heap_same (qW c1),(World.putObj_heap_other Oo).trans c2⟩
   rintro e a3 W3 hq;cases e with
   |normal=>
    obtain⟨q1,q2,q3⟩:=hq;obtain⟨hr,c1,c2,c3⟩:=fin none W3 q1;exact⟨_,_,hr,Or.inl ⟨rfl,⟨hI _ _ _ q3 (KT.put _ Oo c1 rfl),c2,c3⟩,a8 (a8 c7 q2) (a6 l _ _ _ Oo c1 rfl)⟩⟩
   |ret=>
    obtain⟨q1,q2,q3⟩:=hq;obtain⟨hr,c1,c2,c3⟩:=fin (some .ret) W3 q1;exact⟨_,_,hr,Or.inr ⟨rfl,⟨.ret,a7 _ _ _ q3 (KT.put _ Oo c1 rfl),c2,c3⟩,d0 c7 q2 (a6 l _ _ _ Oo c1 rfl)⟩⟩
   |exit id=>
    obtain⟨q1,q2,q3⟩:=hq;obtain⟨hr,c1,c2,c3⟩:=fin (some (.exit id)) W3 q1;exact⟨_,_,hr,Or.inr ⟨rfl,⟨.exit id,a7 _ _ _ q3 (KT.put _ Oo c1 rfl),c2,c3⟩,d0 c7 q2 (a6 l _ _ _ Oo c1 rfl)⟩⟩
   |goto t=>exact hq.elim
   |panic ch=>exact hq.elim
   |outgrown=>exact hq.elim)
  ⟨hI [] w U h0 (KT.of_below d1 (nR _)),d2,d8⟩
 refine⟨l,[{ target:=.collected w.1.size,args:=#[] }],U,{ target:=.fn (.func gf) lb,args:=#[.func (.yield l) #[] #[]] },U,gf,#[.func (.yield l) #[] #[]]++lb,U,?_,?_,?_,?_,qFQ _,?_⟩;have:=run_enterLoop_outer (P:=P) (w:=w) fn a.tmps ps assign body;rw[hl,a5,M];exact this
 ·simp only[resolve,hg];simp[go_sem]
 intro f' _;trivial
 ·simp[invoke,go_sem,eg]
 refine callsIn_wide.2 (b9.mono ?_);rintro e W2 ⟨⟨v,rfl⟩,⟨hi,h1,h2⟩|⟨c,hi,h1,h2⟩⟩;exact⟨none,_,by have:=run_endLoop (P:=P) h1 (by rw[M];simp);rw[M]at this;exact this,b0 _ _ (nR _) (hI _ _ _ hi (KT.put _ Oo h1 rfl)) ((World.putObj_heap_other Oo).trans h2)⟩;exact⟨some c,_,by have:=run_endLoop (P:=P) h1 (by rw[M];simp);rw[M]at this;exact this,b7 _ c _ (nR _) (a7 _ _ _ hi (KT.put _ Oo h1 rfl)) ((World.putObj_heap_other Oo).trans h2)⟩
structure JX where
 h:Nat
 r:Nat
 v:Nat
 n0:Nat
 nT:Nat
 H:Nat->Nat->Bool
 D:Nat->LI->Prop
 N:Nat->LI->LI
 f:Nat->LI->Nat
 g0:Nat->LI->Value
 g1:Nat->LI->Value
 hv:Value
 uh:List Value
 hav:LL
def RBk(x:JX)(W:World)(k:Nat):Prop:=∃o n c,W.cell? (az x.r 0)=some (.slice (some (az k o)) n c)
def Mb(x:JX)(W:World)(k:Nat):Prop:=k=x.h∨k=x.r∨k=x.v∨RBk x W k
def TyR(x:JX)(W:World):Prop:=∀k,RBk x W k->∃cur z,W.1[k]?=some (Obj.cells cur 24 z)
structure KpS(x:JX)(S:Nat->Prop)(W W':World):Prop where
 os:W'.os=W.os
 tape:W'.tape=W.tape
 output:W'.output=W.output
 size:W.1.size<=W'.1.size
 same:∀(k:Nat) (o:Obj),W.1[k]?=some o->(o.isCells=true∨¬S k)->¬Mb x W k->W'.1[k]?=some o
 fresh:∀k,RBk x W' k->RBk x W k∨W.1.size<=k
 typ:TyR x W->TyR x W'
section
variable {x:JX} {S:Nat->Prop} {X Y Z:World}
theorem RBk.eq(h:Y.1[x.r]?=X.1[x.r]?)(k:Nat):RBk x Y k↔RBk x X k:=by
 unfold RBk;have e:Y.cell? (az x.r 0)=X.cell? (az x.r 0):=bF (w:=X) (a:=(az x.r 0)) h;rw[e]
theorem KpS.refl(x:JX)(S:Nat->Prop)(X:World):KpS x S X X:=⟨rfl,rfl,rfl,nR _,λ_ _ h _ _=>h,λ_ h=>Or.inl h,λh=>h⟩
theorem KpS.trans(h:KpS x S X Y)(k:KpS x S Y Z):KpS x S X Z:=by
 refine⟨k.os.trans h.os,k.tape.trans h.tape,k.output.trans h.output,bM h.size k.size,λi o hi hs I=>?_,λi hi=>?_,λM=>k.typ (h.typ M)⟩
 ·refine k.same i o (h.same i o hi hs I) hs λK=>?_;rcases K with e|e|e|e;exact I (Or.inl e);exact I (Or.inr (Or.inl e));exact I (Or.inr (Or.inr (Or.inl e)));rcases h.fresh i e with e|e;exact I (Or.inr (Or.inr (Or.inr e)));have:=qW hi;omega
 rcases k.fresh i hi with e|e;exact h.fresh i e;exact Or.inr (bM h.size e)
theorem KpS.sub{I:Nat->Prop}(h:KpS x S X Y)(hs:∀k,S k->I k):KpS x I X Y:=
 ⟨h.os,h.tape,h.output,h.size,λk o K M O=>h.same k o K (M.imp id λU V=>U (hs k V)) O,h.fresh,h.typ⟩
theorem KpS.kt(h:KpS x S X Y)(k:KT X.1.size Y Z)(M:x.r<X.1.size):KpS x S X Z:=by
 have hb:=k.bel;have I:Z.1[x.r]?=Y.1[x.r]?:=hb.block _ M;refine⟨hb.os.trans h.os,hb.tape.trans h.tape,hb.output.trans h.output,bM h.size hb.size,λi o hi hs O=>(hb.block i (qW hi)).trans (h.same i o hi hs O),λi hi=>h.fresh i ((RBk.eq I i).1 hi),λU i hi=>?_⟩;obtain⟨cur,z,K⟩:=h.typ U i ((RBk.eq I i).1 hi);exact⟨cur,z,(k.cel i cur _ z K Dd Dd).trans K⟩
theorem KpS.put{O:Obj}(hs:S l)(hl:X.1[l]?=some o)(U:o.isCells=false)(hr:x.r≠l):KpS x S X (X.putObj l O):=by
 have V:(X.putObj l O).1[x.r]?=X.1[x.r]?:=World.putObj_heap_other hr;refine⟨rfl,rfl,rfl,Ss,λk o2 K M _=>(World.putObj_heap_other λe=>?_).trans K,λk K=>Or.inl ((RBk.eq V k).1 K),λht k K=>?_⟩
 ·subst e;rw[hl]at K;cases K
  rcases M with I|I;rw[U]at I;cases I
  exact I hs
 obtain⟨cur,z,I⟩:=ht k ((RBk.eq V k).1 K);refine⟨cur,z,(World.putObj_heap_other λe=>?_).trans I⟩;subst e;rw[hl]at I;cases I
 cases U
theorem KpS.nr(h:KpS x S X Y)(O:k<X.1.size)(K:¬RBk x X k):¬RBk x Y k:=λM=>by
 rcases h.fresh k M with I|I;exact K I;omega
theorem qGW(I:TyR x X)(K:Y.1[x.r]?=X.1[x.r]?)(U:X.1.size<=k):¬RBk x Y k:=λM=>by
 obtain⟨cur,z,O⟩:=I k ((RBk.eq K k).1 M);have:=qW O;omega
end
structure Sb(x:JX)(W W':World):Prop where
 size:W.1.size<=W'.1.size
 same:∀(k:Nat) (cur:Array Value) (ty:TypeId) (z:Nat×Nat),x.n0<=k->W.1[k]?=some (Obj.cells cur ty z)->ty≠176->ty≠4->(ty≠24∨¬RBk x W k)->W'.1[k]?=W.1[k]?
structure JX.Ok(x:JX):Prop where
 h:x.h<x.n0
 r:x.r<x.n0
 v:x.v<x.n0
section
variable {x:JX} {S:Nat->Prop} {X Y Z:World}
theorem KT.sb(h:KT x.n0 X Y):Sb x X Y:=⟨h.bel.size,λk cur ty z _ I K M _=>h.cel k cur ty z I K M⟩
theorem KpS.not(K:x.Ok)(U:TyR x X){cur:Array Value}{ty:TypeId}{z:Nat×Nat}(hk:x.n0<=k)(V:X.1[k]?=some (Obj.cells cur ty z))(I:ty≠24∨¬RBk x X k):¬Mb x X k:=λhm=>by
 have h1:=K.h;have h2:=K.r;have h3:=K.v;rcases hm with e|e|e|e;omega;omega;omega;rcases I with I|I
 ·obtain⟨M,z',O⟩:=U k e;rw[V]at O;cases O
  exact I rfl
 exact I e
theorem KpS.sb(h:KpS x S X Y)(K:x.Ok)(M:TyR x X):Sb x X Y:=
 ⟨h.size,λk _ _ _ O I _ _ U=>(h.same k _ I (Or.inl rfl) (KpS.not K M O I U)).trans I.symm⟩
theorem kD{v:Value}(h:X.ownsRow B e s v n xs)(hs:Sb x X Y)(hB:x.n0<=B)(K:e≠176)(M:e≠4)(O:e≠24∨∀k,v.ownBlock=some k->¬RBk x X k):Y.ownsRow B e s v n xs:=
 qC h λg I=>by
  obtain⟨cur,U⟩:=qN h I;exact hs.same g cur e _ (bM hB (h.lt g I).1) U K M (O.imp id λV=>V g I)
theorem TR.sb{D:LI->Prop}{N0 N1:LI->LI}{f:LI->Nat}{g0 g1:LI->Value}(h:TR X B D N0 N1 f g0 g1)(hs:Sb x X Y)(hB:x.n0<=B):TR Y B D N0 N1 f g0 g1:=
 ⟨λp I=>(hs.same _ _ _ _ (bM hB (h.low p I)) (h.blk p I) Dd Dd (Or.inl Dd)).trans (h.blk p I),h.low,λp I=>kD (h.o0 p I) hs hB Dd Dd (Or.inl Dd),λp I=>kD (h.o1 p I) hs hB Dd Dd (Or.inl Dd),h.inj,h.a0,h.a1⟩
theorem TR.base{D:LI->Prop}{N0 N1:LI->LI}{f:LI->Nat}{g0 g1:LI->Value}(h:TR X B D N0 N1 f g0 g1)(hB:B'<=B):TR X B' D N0 N1 f g0 g1:=
 ⟨h.blk,λp I=>bM hB (h.low p I),λp I=>qF (h.o0 p I) hB,λp I=>qF (h.o1 p I) hB,h.inj,h.a0,h.a1⟩
end
structure Dat(x:JX)(W:World):Prop where
 ty:TyR x W
 tr:∀t,t<x.nT->TR W x.n0 (x.D t) (x.N t) (x.N t) (x.f t) (x.g0 t) (x.g1 t)
 hq:RQ W x.n0 x.hv x.uh x.hav
 nr:∀k,x.hv.ownBlock=some k->¬RBk x W k
section
variable {x:JX} {S:Nat->Prop} {X Y Z:World}
theorem Dat.sb(h:Dat x X)(hs:Sb x X Y)(M:TyR x Y)(O:∀k,k<X.1.size->¬RBk x X k->¬RBk x Y k):Dat x Y:=by
 refine⟨M,λt I=>(h.tr t I).sb hs (nR _),⟨kD h.hq.own hs (nR _) Dd Dd (Or.inr h.nr),h.hq.len,λi hi=>kD (h.hq.each i hi) hs (nR _) Dd Dd (Or.inl Dd),h.hq.ap⟩,λk K=>O k (h.hq.own.lt k K).2 (h.nr k K)⟩
theorem TyR.kt(h:TyR x X)(I:KT x.n0 X Y)(M:x.Ok):TyR x Y:=λk O=>by
 obtain⟨cur,z,K⟩:=h k ((RBk.eq (I.bel.block _ M.r) k).1 O);exact⟨cur,z,(I.cel k cur _ z K Dd Dd).trans K⟩
theorem Dat.kt(h:Dat x X)(I:KT x.n0 X Y)(K:x.Ok):Dat x Y:=h.sb I.sb (h.ty.kt I K) λk _ M O=>M ((RBk.eq (I.bel.block _ K.r) k).1 O)
theorem Dat.kp(h:Dat x X)(I:KpS x S X Y)(K:x.Ok):Dat x Y:=h.sb (I.sb K h.ty) (I.typ h.ty) λ_ hl M=>I.nr hl M
end
def JX.bel(x:JX)(p:LI):List Value:=(List.range x.nT).map λt=>.pointer (some (az (x.f t (prt (x.H t) p)) 0))
theorem JX.bel_len(x:JX)(p:LI):(x.bel p).length=x.nT:=by simp[JX.bel]
structure Brn(x:JX)(B:Nat)(W:World)(vp vb:Value)(p:LI):Prop where
 pre:W.ownsRow B 3 1 vp p.length (p.map ai)
 bel:W.ownsRow B 111 1 vb x.nT (x.bel p)
section
variable {x:JX} {S:Nat->Prop} {X Y Z:World}
theorem Brn.sb{vb:Value}{p:LI}(h:Brn x B X vp vb p)(hs:Sb x X Y)(hB:x.n0<=B):Brn x B Y vp vb p:=
 ⟨kD h.pre hs hB Dd Dd (Or.inl Dd),kD h.bel hs hB Dd Dd (Or.inl Dd)⟩
theorem Brn.below{vb:Value}{p:LI}(h:Brn x B X vp vb p)(hs:Bl X Y):Brn x B Y vp vb p:=⟨qB h.pre hs,qB h.bel hs⟩
theorem Brn.base{vb:Value}{p:LI}(h:Brn x B X vp vb p)(hB:B'<=B):Brn x B' X vp vb p:=⟨qF h.pre hB,qF h.bel hB⟩
end
open Meet
theorem qBn(w:World)(x y:Value)(t:TypeId):∀j u,[x,y][j]?=some u->(w.alloc (.cells #[x,y] t)).cell? (((az w.1.size 0):Addr).add j)=some u:=by
 intro j u I;match j,I with
 |0,I=>simp at I;subst I;simp[Addr.add]
 |1,I=>simp at I;subst I;simp[Addr.add]
def vL(nd:Nat->Nat)(q:Nat->Nat)(k:Nat):List Value:=(List.range k).flatMap λi=>[.pointer (some (az (nd i) 0)),ai (q i)]
theorem uT(nd q:Nat->Nat)(k:Nat):vL nd q (k+1)=vL nd q k++[.pointer (some (az (nd k) 0)),ai (q k)]:=by
 unfold vL;rw[List.range_succ,List.flatMap_append];simp
theorem yO(nd q:Nat->Nat)(k:Nat):(vL nd q k).length=k*2:=by
 induction k with
 |zero=>rfl
 |succ k ih=>rw[uT,lA,ih];simp;omega
theorem JV(nd q:Nat->Nat)(k i:Nat)(hi:i<k):(vL nd q k)[i*2]?=some (.pointer (some (az (nd i) 0)))/\(vL nd q k)[i*2+1]?=some (ai (q i)):=by
 induction k with
 |zero=>omega
 |succ k ih=>
  rw[uT];by_cases e:i<k;have:=ih e;rw[aL (by rw[yO];omega),aL (by rw[yO];omega)];exact this;obtain rfl:i=k:=Oo;rw[bQ (by rw[yO];omega),bQ (by rw[yO];omega),yO];refine⟨?_,?_⟩;rw[Nat.sub_self];rfl;rw[show i*2+1-i*2=1 by omega];rfl
theorem UG(w:World)(vp vt:Value)(bb nT cb:Nat)(K:LI)(nd:Nat->Nat)(d7:∃a n c,vp=.slice a n c)(ht:IS w vt K)(hn:K.length<=1000)
 (a6:∀j,j<K.length->0<=K.getD j 0/\K.getD j 0<nT) (a4:∀j,j<K.length->w.cell? (az bb ((K.getD j 0).toNat))=some (.pointer (some (az (nd j) 0)))):
 Cl 158 #[.agg #[vp,.slice (some (az bb 0)) nT cb],vt] w λe w'=>∃v,e=.returned v/\w'.ownsRow w.1.size 176 2 v K.length (vL nd (λ_=>0) K.length)/\Bl w w':=by
 obtain⟨iC,hi,a9,b0,b1⟩:=info_parts Tryz.infoCur;obtain⟨ap,np,cp,rfl⟩:=d7;obtain⟨d8,ct,rfl,hc⟩:=ht;obtain⟨n,b7⟩:=Ex K.length;rw[<-b7]at hc hn a6 a4 ⊢;clear b7;obtain⟨Wx,U⟩:=Ex (w.alloc (.cells #[.slice ap np cp,.slice (some (az bb 0)) nT cb] 143));have b8:Bl w Wx:=by rw[U];exact(bJ _ _).alloc (nR _) _
 have d9:Wx.1.size=w.1.size+1:=by rw[U];simp
 have b9:Wx.cell? (az w.1.size 1)=some (.slice (some (az bb 0)) nT cb):=by rw[U,bE _ _ _ _ rfl];rfl
 obtain⟨Wm,a5,V,M⟩:=run_makeSlice_owned (P:=Tryz.prog) Wx w.1.size 207 176 iC (.agg #[.pointer none,ai 0]) 2 Tryz.underlying207 hi a9 b0 .i64 .i64 n Oo (by rw[b1];omega) Um Oo;have e0:Sem.run Tryz.prog (Instr.makeSlice 207 (ai 0) (ai (n:Int))) Wx=.ok (.slice (some (az Wx.1.size 0)) 0 n) Wm:=a5;have c7:Bl w Wm:=b8.grown M Oo (λk hk=>by cases hk);have c8:=ay c7;have c9:=ay V;have d0:Wm.cell? (az w.1.size 1)=some (.slice (some (az bb 0)) nT cb):=(bF (w:=Wx) (a:=(az w.1.size 1)) (M.block _ (by show w.1.size<_;omega) (λe=>by cases e))).trans b9;have d1:∃cur,Wm.1[w.1.size]?=some (.cells cur 143 (0,0)):=⟨#[.slice ap np cp,.slice (some (az bb 0)) nT cb],(M.block _ Oo (λe=>by cases e)).trans (by rw[U];exact heap_alloc_new _ _)⟩;have d2:=ay d1;have HC:Hh (∀W,Bl w W->∀j,j<n->∃(b o:Nat),d8=some (az b o)/\W.cell? (az b (o+j))=some (ai (K.getD j 0))/\W.cell? (az bb ((K.getD j 0).toNat))=some (.pointer (some (az (nd j) 0)))):=ay λW hW j hj=>by
  rcases hc with h0|⟨b,o,rfl,h⟩;omega;exact⟨b,o,rfl,(hW.cell (bL w _ (h j hj))).trans (h j hj),(hW.cell (bL w _ (a4 j hj))).trans (a4 j hj)⟩
 have a7:=ay a6;clear hc a6 a4 a5 V M c7 d1 b8;go_enter Tryz.func158,Tryz.ntmps158;go_upto_region 1 with fail;rw[<-U];clear U b9;go_upto_block 0 with fail;clear e0;go_wp2_with fail;go_loopw [5,13] (λv t wr=>∃(k:Nat) (vo:Value),k<=n/\t=ai k/\vo=v/\wr.cell? (az w.1.size 1)=some (.slice (some (az bb 0)) nT cb)/\Hh (Bl w wr/\wr.ownsRow w.1.size 176 2 vo k (vL nd (λ_=>0) k)/\∃cur,wr.1[w.1.size]?=some (.cells cur 143 (0,0)))) (λ_ t _=>n-(intOf t).toNat);exact⟨0,_,nZ _,rfl,rfl,d0,ay ⟨c8.o,by have:=c9.o;rw[d9]at this;exact this,d2.o⟩⟩;clear d0 c8 c9 d2;obtain⟨k,vo,hk,rfl,rfl,d3,HT⟩:=hrel;by_cases d4:k<n
 ·have i1:(k:Int)<(n:Int):=Oo;obtain⟨b,o,ea,c1,c2⟩:=HC.o wr HT.o.1 k d4;subst ea;have h3:=a7.o k d4;obtain⟨t,ht⟩:=Ex ((K.getD k 0).toNat:Nat);have e1:K.getD k 0=(t:Int):=Oo;rw[e1]at c1 c2;have i2:(t:Int)<(nT:Int):=Oo;rw[show((t:Int)).toNat=t by omega]at c2;clear h3 ht e1 HC a7;have hs:=HT.o.1.size;go_wp2_with (first
   |(at_builtin;refine wpList_append_lies _ rfl _ _ 207 rfl w.1.size 176 iC (.agg #[.pointer none,ai 0]) 2 16 Tryz.underlying207 hi a9 b0 b1 rfl Dd vo _ _ rfl (HT.o.2.1.alloc _) (az _ 0) 1 1 [.pointer (some (az (nd k) 0)),ai 0] rfl rfl (qBn _ _ _ _) (λu hu=>by simp at hu;rcases hu with rfl|rfl <;> rfl) Dd Um Oo Sy _ rfl ?_;intro g3 cp3 w3 a3 I d5 d6)
   |fail)
  obtain⟨cur,O⟩:=HT.o.2.2;have a8:w3.1[w.1.size]?=wr.1[w.1.size]?:=zR I (qW O) (own_ne HT.o.2.1 ⟨cur,O⟩ Dd);have e2:w3.cell? (az w.1.size 1)=some (.slice (some (az bb 0)) nT cb):=(bF (w:=wr) (a:=(az w.1.size 1)) a8).trans d3;have HN:Hh (Bl w w3/\w3.ownsRow w.1.size 176 2 (.slice (some (az g3 0)) (k+1) cp3) (k+1) (vL nd (λ_=>0) (k+1))/\∃cur,w3.1[w.1.size]?=some (.cells cur 143 (0,0))):=ay ⟨(HT.o.1.alloc hs _).grown I Sy (λq hq=>(HT.o.2.1.lt q hq).1),by rw[uT];exact a3,cur,a8.trans O⟩;clear a3 I d5 d6 HT d3 a8 O;go_roundw;exact⟨k+1,_,Oo,Gg,rfl,e2,HN⟩;exact Im
 obtain rfl:k=n:=Oo;have i1:¬((k:Int)<(k:Int)):=Oo;clear HC a7;go_wp2_with fail;go_ret;exact⟨vo,rfl,HT.o.2.1,HT.o.1⟩
theorem Ja(w:World)(cu cc n:Nat)(nd q:Nat->Nat)(V:Nat->Option Addr)(K ca:Nat->Nat)(h1:0<n)(hn:n<=1000)(O:∀j,j<n->w.cell? (az cu (j*2))=some (.pointer (some (az (nd j) 0)))/\w.cell? (az cu (j*2+1))=some (ai (q j)))
 (hv:∀j,j<n->w.cell? (az (nd j) 0)=some (.slice (V j) (K j) (ca j))):
 Cl 159 #[.slice (some (az cu 0)) n cc] w λe w'=>∃i,i<n/\e=.returned (.slice (V i) (K i) (ca i))/\Bl w w':=by
 obtain⟨c0,-⟩:=O 0 h1;have v0:=hv 0 h1;rw[Nat.zero_mul]at c0;have i0:(0:Int)<(n:Int):=Oo;have HC:Hh (∀W,Bl w W->∀j,j<n->W.cell? (az cu (j*2))=some (.pointer (some (az (nd j) 0)))/\W.cell? (az cu (j*2+1))=some (ai (q j))/\W.cell? (az (nd j) 0)=some (.slice (V j) (K j) (ca j))):=ay λW hW j U=>
  ⟨(hW.cell (bL w _ (O j U).1)).trans (O j U).1,(hW.cell (bL w _ (O j U).2)).trans (O j U).2,(hW.cell (bL w _ (hv j U))).trans (hv j U)⟩
 clear O hv;go_enter Tryz.func159,Tryz.ntmps159;go_upto_block 0 with fail;clear c0 v0;go_wp2_with fail;go_loopw [3,15] (λv t wr=>∃(k i:Nat),k<=n/\i<n/\t=ai k/\v=.slice (V i) (K i) (ca i)/\Hh (Bl w wr)) (λ_ t _=>n-(intOf t).toNat);exact⟨0,0,nZ _,h1,rfl,rfl,ay (bJ _ _)⟩;obtain⟨k,i,hk,hi,rfl,rfl,HB⟩:=hrel;by_cases a3:k<n
 ·have i1:(k:Int)<(n:Int):=Oo;obtain⟨c1,c2,c3⟩:=HC.o wr HB.o k a3;obtain⟨W2,I⟩:=Ex (wr.alloc (.cells #[.pointer (some (az (nd k) 0)),ai (q k)] 176));have M:Bl wr W2:=by rw[I];exact(bJ _ _).alloc (nR _) _
  have d1:W2.cell? (az wr.1.size 0)=some (.pointer (some (az (nd k) 0))):=by rw[I,bE _ _ _ _ rfl];rfl
  have d3:W2.cell? (az (nd k) 0)=some (.slice (V k) (K k) (ca k)):=(M.cell (bL wr _ c3)).trans c3;have a4:=ay (bt HB.o M);clear M HC c3;go_upto_region 5 with fail;rw[<-I];clear I c1 c2;by_cases a5:(K k:Int)<(K i:Int)
  ·go_wp2_with fail;go_roundw;exact⟨k+1,k,Oo,a3,Gg,rfl,a4⟩;exact Im
  go_wp2_with fail;go_roundw;exact⟨k+1,i,Oo,hi,Gg,rfl,a4⟩;exact Im
 obtain rfl:k=n:=Oo;have i1:¬((k:Int)<(k:Int)):=Oo;clear HC;go_wp2_with fail;go_ret;exact⟨i,hi,rfl,HB.o⟩
theorem vF(w:World)(v:Value)(l:LI)(h:IS w v l)(hl:l.length<=100000):
 Cl 81 #[v] w λe w'=>∃v',e=.returned v'/\w'.ownsRow w.1.size 3 1 v' l.length (l.map ai)/\Bl w w':=by
 obtain⟨i0,hi,a5,a6,a7⟩:=info_parts Tryz.infoInt;obtain⟨a,cap,rfl,hc⟩:=h;cases a with
 |none=>
  have V:l.length=0:=by
   rcases hc with V|⟨b,o,e,-⟩;exact V;cases e
  have e0:l=[]:=List.eq_nil_of_length_eq_zero V;subst e0;have hq:∀w:World,(binOp .eql 24 (.slice none 0 cap) sn).run Tryz.prog w=.ok (.bool true) w:=λw=>Lib.run_eql_slice_nil w 24 3 none 0 cap 0 0 Tryz.underlying24;go_enter Tryz.func81,Tryz.ntmps81;go_wp2;go_ret;exact⟨_,rfl,oN _ _ _ _,bJ _ _⟩
 |some ad=>
  have hq:∀w:World,(binOp .eql 24 (.slice (some ad) l.length cap) sn).run Tryz.prog w=.ok (.bool false) w:=λw=>Lib.run_eql_slice_nil w 24 3 (some ad) l.length cap 0 0 Tryz.underlying24;have M:(w.alloc (.cells #[] 3)).ownsRow w.1.size 3 1 (.slice (some (az w.1.size 0)) 0 0) 0 []:=oM w #[] 0 (nR _) Dd rfl;have a3:Bl w (w.alloc (.cells #[] 3)):=(bJ _ _).alloc (nR _) _;by_cases V:l.length=0
  ·have e0:l=[]:=List.eq_nil_of_length_eq_zero V;subst e0;have b1:∀w:World,(binOp .eql 24 (.slice (some ad) 0 cap) sn).run Tryz.prog w=.ok (.bool false) w:=hq;clear hq hc V;go_enter Tryz.func81,Tryz.ntmps81;go_wp2_with (first|(at_builtin;refine wpList_append_own _ rfl _ _ 24 rfl w.1.size 3 i0 (ai 0) 1 8 Tryz.underlying24 hi a5 a6 a7 rfl Dd (.slice (some (az w.1.size 0)) 0 0) 0 [] rfl M ad 0 cap [] rfl rfl (λj u U=>by simp at U) (λu U=>by cases U) Um Oo Ss ?_;intro v3 w3 K I _)|fail);go_ret;exact⟨_,rfl,K,a3.grown I Ss (λk hk=>(M.lt k hk).1)⟩
  obtain⟨b,o,e,a4⟩:∃b o,some ad=some ((az b o):Addr)/\∀j,j<l.length->w.cell? (az b (o+j))=some (ai (l.getD j 0)):=by
   rcases hc with h1|h1;omega;exact h1
  obtain rfl:=Option.some.inj e;clear hc e;have O:∀j u,(l.map ai)[j]?=some u->(w.alloc (.cells #[] 3)).cell? (((az b o):Addr).add j)=some u:=λj u U=>by
   have hj:j<l.length:=by
    rcases Nat.lt_or_ge j l.length with h|h;exact h;rw[gN (by simpa using h)]at U;cases U
   rw[show(((az b o):Addr).add j)=(az b (o+j))by unfold Addr.add;split <;> simp_all,a3.cell (p:=(az b (o+j))) (bL w _ (a4 j hj)),a4 j hj,<-U,bK,gD,gE hj];rfl
  have a8:=ay O;clear O a4;obtain⟨n,hn⟩:=Ex l.length;have HN:=ay hn;rw[<-hn]at hq hl V ⊢;clear hn;go_enter Tryz.func81,Tryz.ntmps81;go_wp2_with (first|(at_builtin;refine wpList_append_lies _ rfl _ _ 24 rfl w.1.size 3 i0 (ai 0) 1 8 Tryz.underlying24 hi a5 a6 a7 rfl Dd (.slice (some (az w.1.size 0)) 0 0) 0 [] rfl M (az b o) n cap (l.map ai) rfl (by rw[lM,HN.o];omega) a8.o (λu U=>by obtain⟨x,_,rfl⟩:=List.mem_map.1 U;rfl) Oo Um Oo Ss _ rfl ?_;intro g3 cp3 w3 K I a9 b0)|fail);go_ret;refine⟨_,rfl,?_,a3.grown I Ss (λk hk=>(M.lt k hk).1)⟩;simpa using K
theorem Tryz.infoTriP:(Tryz.prog.info? 111).map (λi=>(i.zero,i.size,i.bytes))=some (some (.pointer none),1,8):=Kl
theorem qCr{g:Nat}(h:W.ownsRow B e 1 (.slice (some (az g 0)) n c) n xs):∀j u,xs[j]?=some u->W.cell? (((az g 0):Addr).add j)=some u:=h.cells rfl
theorem UH(w:World)(B g cap n:Nat)(xs:List Value)(h:w.ownsRow B 111 1 (.slice (some (az g 0)) n cap) n xs)(h0:0<n)(hl:n<=100000)(O:∀u∈xs,u.oneCell'=true):
 Cl 192 #[.slice (some (az g 0)) n cap] w λe w'=>∃g' c',e=.returned (.slice (some (az g' 0)) n c')/\w'.ownsRow w.1.size 111 1 (.slice (some (az g' 0)) n c') n xs/\Bl w w':=by
 obtain⟨i0,hi,V,a3,a4⟩:=info_parts Tryz.infoTriP;have hq:∀w:World,(binOp .eql 141 (.slice (some (az g 0)) n cap) sn).run Tryz.prog w=.ok (.bool false) w:=λw=>Lib.run_eql_slice_nil w 141 111 (some (az g 0)) n cap 0 0 Tryz.underlying141;have K:(w.alloc (.cells #[] 111)).ownsRow w.1.size 111 1 (.slice (some (az w.1.size 0)) 0 0) 0 []:=oM w #[] 0 (nR _) Dd rfl;have U:Bl w (w.alloc (.cells #[] 111)):=(bJ _ _).alloc (nR _) _;have a5:=ay (qCr (qB h U));have HL:=ay h.1;clear h;go_enter Tryz.func192,Tryz.ntmps192;go_wp2_with (first|(at_builtin;refine wpList_append_lies _ rfl _ _ 141 rfl w.1.size 111 i0 (.pointer none) 1 8 Tryz.underlying141 hi V a3 a4 rfl Dd (.slice (some (az w.1.size 0)) 0 0) 0 [] rfl K (az g 0) n cap xs rfl HL.o a5.o O Oo Um Oo Ss _ rfl ?_;intro g3 cp3 w3 M I a6 a7)|fail);go_ret;refine⟨g3,cp3,rfl,?_,U.grown I Ss (λk hk=>(K.lt k hk).1)⟩;simpa using M
theorem qD(h:Bl A X)(o:Obj):Bl A (X.alloc o):=h.alloc h.size o
theorem zD(h:Bl A X):Bl A X.drew:=h.drew
theorem XC{v:Value}{t:TypeId}(K:k=X.1.size)(hb:Below (X.alloc (.cells #[v] t)).1.size (X.alloc (.cells #[v] t)) W):∀j u,[v][j]?=some u->W.cell? (((az k 0):Addr).add j)=some u:=λj u M=>by
 subst K;have I:=qH X v t j u M;exact(hb.cell (bL _ _ I)).trans I
theorem xY{v:Value}(h:w.ownsRow B e s v n xs):∃a cap,v=.slice a n cap:=by
 rcases h.2 with ⟨rfl,rfl⟩|⟨g,cap,cur,rfl,-⟩;exact⟨_,_,rfl⟩;exact⟨_,_,rfl⟩
def BrX(W:World)(k:Nat)(x y:Value):Prop:=W.1[k]?=some (.cells #[x,y] 143 (0,0))
theorem BrX.new(W:World)(x y:Value):BrX (W.alloc (.cells #[x,y] 143)) W.1.size x y:=heap_alloc_new _ _
theorem BrX.lt(h:BrX W k x y):k<W.1.size:=qW h
theorem BrX.below{W':World}(h:BrX W k x y)(hb:Bl W W'):BrX W' k x y:=(hb.block k h.lt).trans h
theorem BrX.c0(h:BrX W k x y):W.cell? (az k 0)=some x:=by rw[cell_of_row _ _ _ _ _ _ h];rfl
theorem BrX.c1(h:BrX W k x y):W.cell? (az k 1)=some y:=by rw[cell_of_row _ _ _ _ _ _ h];rfl
theorem BrX.free(h:BrX W k x y)(j:Nat):W.frozen? (az k j)=false:=by unfold World.frozen?;rw[show W.1[k]?=_ from h];simp
theorem BrX.set(h:BrX W k x y)(u v:Value):BrX ((W.setCell (az k 0) u).setCell (az k 1) v) k u v:=by
 unfold BrX;rw[bI _ _ _ _ _ _ (bI _ _ _ _ _ _ h)];rfl
theorem BrX.grown{w3:World}{u:Value}(h:BrX W k x y)(I:W.ownsRow B e s u n xs)(K:e≠143)(M:(W.alloc o).grownBy w3 u.ownBlock):BrX w3 k x y:=(zR M h.lt (own_ne I ⟨_,h⟩ K)).trans h
theorem y9{v u1 u2:Value}(h:W.ownsRow B e s v n xs)(K:BrX W k x y)(M:e≠143):((W.setCell (az k 0) u1).setCell (az k 1) u2).ownsRow B e s v n xs:=
 qC h λg O=>by
  have I:g≠k:=λU=>own_ne h ⟨_,K⟩ M (by rw[<-U];exact O.symm);rw[bD _ _ _ _ (by exact I),bD _ _ _ _ (by exact I)]
structure WiE(w:World)(p:LI)(xv:Int)(nT:Nat)(bs:List Value)(k:Nat)(wc:World)(g c g' c':Nat):Prop where
 box:BrX wc k (.slice (some (az g 0)) (p.length+1) c) (.slice (some (az g' 0)) nT c')
 op:wc.ownsRow w.1.size 3 1 (.slice (some (az g 0)) (p.length+1) c) (p.length+1) ((p++[xv]).map ai)
 ob:wc.ownsRow w.1.size 111 1 (.slice (some (az g' 0)) nT c') nT bs
 bel:Bl w wc
 low:w.1.size<=k
def yy(bs:List Value)(ts:LI)(y:Nat->Nat):Nat->List Value
 |0=>bs
 |k+1=>(yy bs ts y k).set (ts.getD k 0).toNat (.pointer (some (az (y k) 0)))
theorem qDF(n:Nat)(I:n<=100000):bits .and .u64 (n:Int) 4294967295=(n:Int):=by
 have h:=bits_and_u64_nat n 4294967295 Oo Oo;rw[show((4294967295:Nat):Int)=4294967295 by rfl]at h;rw[h];have:n&&& 4294967295=n:=by
  rw[show(4294967295:Nat)=2 ^ 32-1 by rfl,Nat.and_two_pow_sub_one_eq_mod];exact Nat.mod_eq_of_lt Oo
 rw[this]
theorem qDG(w:World)(n:Nat)(I:n<=100000):
 Cl 163 #[.int .u64 1,.int .u64 n] w λe w'=>e=.returned (.tuple #[.int .u64 0,.int .u64 n])/\w'=w:=by
 have K:bits .and .u64 1 4294967295=1:=Dd;have M:bits .and .u64 0 4294967295=0:=Dd;have b2:=qDF n I;have O:(n:Int) / 4294967296=0:=Oo;have w1:IntKind.u64.wrap (n:Int)=n:=by simp[IntKind.wrap,IntKind.bits,IntKind.signed];omega
 have w0:IntKind.u64.wrap 0=0:=Dd;go_enter Tryz.func163,Tryz.ntmps163;go_wp2;go_ret2;exact⟨rfl,rfl⟩
theorem mul_one(w:World)(n:Nat)(I:n<=100000):
 Cl 134 #[.int .u64 1,.int .u64 n] w λe w'=>e=.returned (.tuple #[.int .u64 0,.int .u64 n])/\w'=w:=by
 have K:=ay (qDG w n I);go_enter Tryz.func134,Tryz.ntmps134;go_wp2_with fail;refine K.o.mono ?_;rintro e w1 ⟨rfl,M⟩;subst w1;go_wp2_with fail;go_ret2;exact⟨rfl,rfl⟩
def fil(n m:Nat):List Value:=List.replicate m (ai 1)++List.replicate (n-m) (ai 0)
theorem qFp(h:m<=n):(fil n m).length=n:=by simp[fil];omega
theorem qCC:splice (fil n m) m (List.replicate c (ai 1))=fil n (m+c):=by
 unfold splice fil;rw[List.take_left' Ss,List.length_replicate,List.drop_append,List.length_replicate,show m+c-m=c by omega,List.drop_replicate,show m-(m+c)=0 by omega,List.replicate_zero,List.nil_append,List.drop_replicate,<-List.append_assoc,List.replicate_append_replicate,show n-m-c=n-(m+c)by omega]
theorem qFq(h:j<m)(v:Value)(hv:(List.replicate m (ai 1))[j]?=some v):v=ai 1:=by
 rw[List.getElem?_replicate]at hv;rw[if_pos h]at hv;exact(Option.some.inj hv).symm
theorem qDH(I:0<n):(fil n 0).toArray.setIfInBounds 0 (ai 1)=(fil n 1).toArray:=by
 obtain⟨k,rfl⟩:∃k,n=k+1:=⟨n-1,Oo⟩;simp[fil,List.replicate_succ]
structure Fil(w W:World)(n m:Nat):Prop where
 bel:Bl w W
 blk:W.1[w.1.size]?=some (.cells (fil n m).toArray 3 (0,0))
theorem Kn(w:World)(b:Nat)(n:Nat)(hn:n<=100000)(hx:w.cell? (az b 0)=some (ai 1)):
 Cl 113 #[.slice (some (az b 0)) 1 1,ai n] w λe w'=>∃v,e=.returned v/\w'.ownsRow w.1.size 3 1 v n (List.replicate n (ai 1))/\Bl w w':=by
 obtain⟨i0,hi,a7,a3,a8⟩:=info_parts Tryz.infoInt;have KM:=ay (mul_one w n hn);have g1:¬((n:Int)<0):=Oo;have w1:IntKind.u64.wrap (n:Int)=n:=by simp[IntKind.wrap,IntKind.bits,IntKind.signed];omega
 have w2:IntKind.i64.wrap (n:Int)=n:=by simp[IntKind.wrap,IntKind.bits,IntKind.signed];omega
 have g2:¬((9223372036854775807:Int)<(n:Int)):=Oo;have HX:=ay hx;have a9:b<w.1.size:=bL w _ hx;clear hx;go_enter Tryz.func113,Tryz.ntmps113;go_wp2_with fail;refine KM.o.mono ?_;rintro e w' ⟨rfl,c8⟩;subst w';go_wp2_with (at_make;refine wpList_make_full _ rfl _ _ 24 rfl w.1.size 3 i0 (ai 0) 1 Tryz.underlying24 hi a7 a3 _ _ _ _ n rfl rfl rfl rfl ?b2 ?b3 (nR _) ?_)
 case b2=>rw[a8];omega
 case b3=>unfold maxLen;omega
 intro w0 M K;have I:Hh (Fil w w0 n 0):=ay ⟨(bJ _ _).grown K (nR _) (λj V=>by cases V),by
  rcases M.2 with ⟨e,-⟩|⟨g',b9,cur,e,-,hc,-,-,hs,ht⟩;cases e
  simp only[Value.slice.injEq,Option.some.injEq,Addr.mk.injEq,true_and,and_true]at e;obtain⟨rfl,rfl⟩:=e;rw[hc];have:cur.toList=fil n 0:=by
   rw[<-List.take_of_length_le (l:=cur.toList) (i:=n*1) Sy,ht];rw[toList_madeCells_one];simp[fil]
  rw[<-this]⟩
 have O:(Tryz.prog.info? 3).map (·.size)=some 1:=by rw[hi];simp[a3]
 clear M K KM;have c9:Hh (∀W m c,m+c<=n->Fil w W n m->W.1[w.1.size]?=some (.cells (fil n m).toArray 3 (0,0))):=ay λW m c _ h=>h.blk;by_cases b0:n=0
 ·subst b0;have a4:∀ty,(Builtin.copy_ #[24,24] ty #[.slice (some (az w.1.size 0)) 0 0,.slice (some (az b 0)) 1 1]).run Tryz.prog w0=.ok (goInt 0) w0:=λty=>run_copy_none w0 24 24 ty 3 _ _ 0 0 1 1 Tryz.underlying24 O rfl;have d0:goInt 0=ai 0:=rfl;go_wp2_with fail;refine wp_loop_rounds 1 ?_;rw[rounds_succ];go_wp2_with fail;go_ret;refine⟨_,rfl,⟨Ss,Or.inr ⟨w.1.size,0,_,rfl,nR _,I.o.blk,nR _,nZ _,by simp[fil],by simp[fil]⟩⟩,I.o.bel⟩
 have a4:∀ty,(Builtin.copy_ #[24,24] ty #[.slice (some (az w.1.size 0)) n n,.slice (some (az b 0)) 1 1]).run Tryz.prog w0=.ok (goInt 1) (w0.setCell (az w.1.size 0) (ai 1)):=λty=>
  run_copy_cells w0 24 24 ty 3 w.1.size 0 n n (az b 0) 1 1 [ai 1] Tryz.underlying24 O (by show 1=Nat.min 1 n;exact(Nat.min_eq_left Oo).symm) (λj v hv=>by
   match j,hv with
   |0,hv=>
    simp at hv;subst hv;rw[show(((az b 0):Addr).add 0)=(az b 0)by rfl];exact(I.o.bel.cell (p:=(az b 0)) a9).trans HX.o) (λj V=>by
   simp at V;subst V;rw[cell_of_row _ _ _ _ _ _ I.o.blk];simp[fil];omega) (λj _=>by unfold World.frozen?;rw[I.o.blk];simp) (λv hv=>by simp at hv;subst hv;rfl)
 have d1:goInt 1=ai 1:=rfl;have a5:Hh (Fil w (w0.setCell (az w.1.size 0) (ai 1)) n 1):=ay ⟨I.o.bel.setCell (nR _) _,by
  rw[bI _ _ _ _ _ _ I.o.blk,<-qDH Oo]⟩
 clear I;generalize w0.setCell (az w.1.size 0) (ai 1)=W1 at *;go_wp2_with fail;clear a4;go_loopw [8] (λt wr=>∃m:Nat,1<=m/\m<=n/\t=ai m/\Hh (Fil w wr n m)) (λt _=>n-(intOf t).toNat);exact⟨1,nR _,Oo,Gg,a5⟩;clear a5;obtain⟨m,b1,b7,rfl,U⟩:=hrel;by_cases d2:m<n
 ·have i1:(m:Int)<(n:Int):=Oo;have q1:¬n=m:=Oo;have q2:m<=n:=Oo;have q3:(m:Int)<=(n:Int):=Oo;obtain⟨c,hc⟩:=Ex (Nat.min m (n-m));have b8:1<=c/\m+c<=n:=by
   rw[hc];have h1:Nat.min m (n-m)<=n-m:=Nat.min_le_right _ _;have h2:1<=Nat.min m (n-m):=Nat.le_min.2 ⟨b1,Oo⟩;omega
  have a6:Hh (∀W:World,W.1[w.1.size]?=some (Obj.cells (fil n m).toArray 3 (0,0))->∀j v,(List.replicate c (ai 1))[j]?=some v->W.cell? (((az w.1.size 0):Addr).add j)=some v):=ay λW hW j v hv=>by
   have V:j<c:=by
    rcases Nat.lt_or_ge j c with h|h;exact h;rw[gN (by simpa using h)]at hv;cases hv
   rw[qFq V v hv,show(((az w.1.size 0):Addr).add j)=(az w.1.size j)by unfold Addr.add;split <;> simp_all,cell_of_row _ _ _ _ _ _ hW];have d3:c<=m:=by rw[hc];exact Nat.min_le_left _ _
   show(fil n m).toArray[j]?=_;rw[List.getElem?_toArray];unfold fil;rw[aL (by rw[List.length_replicate];omega),List.getElem?_replicate,if_pos Oo]
  have c7:∀ty,(Builtin.copy_ #[24,24] ty #[.slice (some (az w.1.size m)) (n-m) (n-m),.slice (some (az w.1.size 0)) m n]).run Tryz.prog wr.drew=.ok (goInt c) (wr.drew.setRow w.1.size (fil n (m+c)).toArray):=λty=>by
   have h:=run_copy_row (P:=Tryz.prog) wr.drew 24 24 ty 3 w.1.size m (n-m) (n-m) (az w.1.size 0) m n (fil n m).toArray 3 (List.replicate c (ai 1)) Tryz.underlying24 O U.o.blk (by rw[List.length_replicate];exact hc) (a6.o wr.drew U.o.blk) (by rw[List.size_toArray,qFp b7,List.length_replicate];exact b8.2) (λv hv=>by rw[List.eq_of_mem_replicate hv];rfl);rw[List.length_replicate]at h;have e:=qCC (n:=n) (m:=m) (c:=c);unfold splice at e;rw[List.length_replicate]at e;rw[List.append_assoc,e]at h;exact h
  have d4:goInt c=ai c:=rfl;have HN:Hh (Fil w (wr.drew.setRow w.1.size (fil n (m+c)).toArray) n (m+c)):=ay ⟨below_setRow U.o.bel.drew (nR _) _,setRow_heap wr.drew _ _ _ _ _ U.o.blk⟩;clear U a6 hc;go_upto_region 9 with fail;go_region
  go_wp2_with fail;go_roundw;exact⟨m+c,Oo,Oo,Gg,HN⟩;exact Im
 obtain rfl:m=n:=Oo;have i1:¬((m:Int)<(m:Int)):=Oo;go_wp2_with fail;go_ret;refine⟨_,rfl,⟨Ss,Or.inr ⟨w.1.size,m,_,rfl,nR _,U.o.blk,nR _,Um,by simp[fil],by simp[fil]⟩⟩,U.o.bel⟩
theorem jx{a b:World}(h:Below a.drew.1.size a.drew b):Bl a b:=⟨h.os,h.tape,h.output,h.size,h.block⟩
theorem qg{v:Value}(h:w.ownsRow B e s v n xs):∃a cap,v=.slice a n cap:=by
 rcases h.2 with ⟨rfl,I⟩|⟨g,cap,cur,rfl,_⟩;exact⟨none,0,by rw[I]⟩;exact⟨_,cap,rfl⟩
theorem qL{p:Nat}{I:TypeId}{v:Value}(h:W.ownsRow B e s v n xs)(K:∃cur,W.1[p]?=some (.cells cur I (0,0)))(M:e≠I):(W.setCell (az p off) y).ownsRow B e s v n xs:=
 qC h λg O=>bD _ _ _ _ (by rintro rfl;exact own_ne h K M O.symm)
theorem RQ.set{p:Nat}{v:Value}(h:RQ W B v us ls)(I:∃cur,W.1[p]?=some (.cells cur 61 (0,0))):RQ (W.setCell (az p off) y) B v us ls:=
 ⟨qL h.own I Dd,h.len,λi hi=>qL (h.each i hi) I Dd,h.ap⟩
theorem RQ.sl{v:Value}(h:RQ W B v us ls):∃a cap,v=.slice a ls.length cap:=qg h.own
structure TX(W:World)(p:Nat)(v0 v1 v2:Value):Prop where
 blk:W.1[p]?=some (.cells #[v0,v1,v2] 61 (0,0))
section
variable {W W':World} {p:Nat} {v0 v1 v2:Value}
theorem TX.lt(h:TX W p v0 v1 v2):p<W.1.size:=by
 rcases Nat.lt_or_ge p W.1.size with I|I;exact I;have:=h.blk;rw[Array.getElem?_eq_none I]at this;cases this
theorem TX.below(h:TX W p v0 v1 v2)(hb:Bl W W'):TX W' p v0 v1 v2:=⟨(hb.block p h.lt).trans h.blk⟩
theorem TX.c0(h:TX W p v0 v1 v2):W.cell? (az p 0)=some v0:=by rw[cell_of_row _ _ _ _ _ _ h.blk];rfl
theorem TX.c1(h:TX W p v0 v1 v2):W.cell? (az p 1)=some v1:=by rw[cell_of_row _ _ _ _ _ _ h.blk];rfl
theorem TX.c2(h:TX W p v0 v1 v2):W.cell? (az p 2)=some v2:=by rw[cell_of_row _ _ _ _ _ _ h.blk];rfl
theorem TX.free(h:TX W p v0 v1 v2)(j:Nat):W.frozen? (az p j)=false:=by unfold World.frozen?;rw[h.blk];simp
theorem TX.typ(h:TX W p v0 v1 v2):∃cur,W.1[p]?=some (.cells cur 61 (0,0)):=⟨_,h.blk⟩
theorem TX.made(W:World)(v0 v1 v2:Value):TX (W.alloc (.cells #[v0,v1,v2] 61)) W.1.size v0 v1 v2:=⟨heap_alloc_new _ _⟩
end
theorem yz(w:World)(vv vr:Value)(vars:LI)(n:Nat)(hv:IS w vv vars)(hr:∃a c,vr=.slice a n c)(d4:vars.length<=1000)(hn:n<=100000):
 Cl 78 #[vv,vr] w λe w'=>∃v0 v2,e=.returned (.agg #[v0,vr,v2])/\w'.ownsRow w.1.size 3 1 v0 vars.length (vars.map ai)/\w'.ownsRow w.1.size 3 1 v2 n (List.replicate n (ai 1))/\Ap' v0 v2/\Bl w w':=by
 obtain⟨W1,O⟩:=Ex (w.alloc (.cells #[sn,sn,sn] 61));have a4:Bl w W1:=by rw[O];exact(bJ _ _).alloc (nR _) _
 have a8:Hh (TX W1 w.1.size sn sn sn):=ay (by rw[O];exact TX.made _ _ _ _);have KC:=ay (vF W1 vv vars (hv.below a4) Oo);have a5:=ay a4;obtain⟨ar,cr,rfl⟩:=hr;obtain⟨av,cv,rfl,-⟩:=hv;clear a4;go_enter Tryz.func78,Tryz.ntmps78;go_upto_region 1 with fail;rw[<-O];clear O;go_wp2_with fail;refine KC.o.mono ?_;rintro e w2 ⟨v0,rfl,U,a6⟩;have a9:=ay (a8.o.below a6);have a7:=ay (bt a5.o a6);have b0:=ay (qF U a5.o.size);have a3:∀g,v0.ownBlock=some g->g<w2.1.size:=λg hg=>(U.lt g hg).2;obtain⟨a0,c0,rfl⟩:=qg U;have b1:=ay a3;clear U a6 KC a8 a5 a3;have b7:Hh (Bl w2 (w2.alloc (.cells #[ai 1] 3))):=ay (aK);have KR:=ay (Kn (w2.alloc (.cells #[ai 1] 3)) w2.1.size n hn (by rw[bE _ _ _ _ rfl];rfl));have d5:=a7.o.size;go_wp2_with fail;refine KR.o.mono ?_;rintro e w3 ⟨v2,rfl,V,b8⟩;have K:=bt b7.o b8;have I:=ay (a9.o.below K);have b9:=ay (bt a7.o K);have c7:=ay (qB b0.o K);have c8:=ay (qF (B':=w.1.size) V Sy);have c9:Hh (Ap' (.slice a0 vars.length c0) v2):=ay λg h1 h2=>by
  have e1:=b1.o g h1;have e2:=(V.lt g h2).1;simp at e2;omega
 obtain⟨a2,c2,rfl⟩:=qg V;clear V b8 K KR b7 a9 a7 b0 b1;have d0:=I.o.c0;have d1:=I.o.c1;have d2:=I.o.c2;have f0:=I.o.free 0;have f1:=I.o.free 1;have f2:=I.o.free 2;have M:=ay I.o.typ;generalize hnv:vars.length=nv at *;have d3:=ay hnv;clear hnv;go_wp2_with fail;refine bodyPost_ret (v:=.agg #[.slice a0 nv c0,.slice ar n cr,.slice a2 n c2]) (by simp[results,Tryz.results78,go_sem,d0,d1,d2]) rfl ⟨_,_,rfl,?_,?_,c9.o,?_⟩;rw[d3.o];exact qL (qL (qL c7.o M.o Dd) (qX M.o) Dd) (qX (qX M.o)) Dd;exact qL (qL (qL c8.o M.o Dd) (qX M.o) Dd) (qX (qX M.o)) Dd;exact((b9.o.setCell (nR _) _).setCell (nR _) _).setCell (nR _) _
theorem vd(w:World)(v0 v1 v2 vv:Value)(vs:LI)(rows:LL)(ws vars:LI)(h:IT w v0 v1 v2 vs rows ws)(hv:IS w vv vars)(b1:vars.length<=1000)(b7:vs.length<=1000)(hn:rows.length<=100000)(O:∀r∈rows,r.length=vs.length):
 Cl 80 #[.agg #[v0,v1,v2],vv] w λe w'=>∃v uo,e=.returned v/\RQ w' w.1.size v uo (srt (zq rows (plc (λi=>decide (vs.getD i 0∈vars)) vs.length)))/\Bl w w':=by
 obtain⟨W1,K⟩:=Ex (w.alloc (.cells #[v0,v1,v2] 61));have I:Bl w W1:=by rw[K];exact(bJ _ _).alloc (nR _) _
 have a3:Hh (TX W1 w.1.size v0 v1 v2):=ay (by rw[K];exact TX.made _ _ _ _);have KP:Hh (∀W,Bl W1 W->Cl 75 #[v0,vv] W λe w'=>∃v,e=.returned v/\w'.ownsRow W.1.size 3 1 v (plc (λi=>decide (vs.getD i 0∈vars)) vs.length).length ((plc (λi=>decide (vs.getD i 0∈vars)) vs.length).map ai)/\Bl W w'):=ay λW hW=>xI W v0 vv vs vars (h.vs.below (bt I hW)) (hv.below (bt I hW)) Oo Oo;have b8:=xp (λi=>decide (vs.getD i 0∈vars)) vs.length;have U:∀p∈plc (λi=>decide (vs.getD i 0∈vars)) vs.length,0<=p/\p<(vs.length:Int):=λp hp=>by
  unfold plc at hp;rw[List.mem_map]at hp;obtain⟨j,hj,e⟩:=hp;rw[List.mem_filter,List.mem_range]at hj;simp only[Int.ofNat_eq_natCast]at e;omega
 have KR:Hh (∀W u,Bl W1 W->IS W u (plc (λi=>decide (vs.getD i 0∈vars)) vs.length)->Cl 115 #[v1,u] W λe w'=>∃v uo,e=.returned v/\RQ w' W.1.size v uo (srt (zq rows (plc (λi=>decide (vs.getD i 0∈vars)) vs.length)))/\Bl W w'):=ay λW u hW hu=>
  Q5 W v1 u rows _ (h.rows.below (bt I hW)) hu Oo Oo (λr hr p hp=>by rw[O r hr];exact U p hp)
 have a5:=ay I;obtain⟨a0,c0,e0,-⟩:=h.vs;obtain⟨a1,c1,e1,-⟩:=h.rows;obtain⟨a2,c2,e2,-⟩:=h.ws;obtain⟨av,cv,e3,-⟩:=hv;subst e0 e1 e2 e3;clear I U h O;generalize plc (λi=>decide (vs.getD i 0∈vars)) vs.length=pl at *;generalize vs.length=l0 at *;generalize rows.length=l1 at *;generalize ws.length=l2 at *;generalize vars.length=l3 at *;have d0:=a3.o.c0;have d1:=a3.o.c1;go_enter Tryz.func80,Tryz.ntmps80;go_upto_region 1 with fail;rw[<-K];clear K;go_region_law (first
  |(go_simp;go_at_call 75;(with_reducible refine(KP.o _ (bJ _ _).drew).mono ?_);rintro e w2 ⟨u2,rfl,a4,V⟩;have M:=jx V;have a6:=ay (qS a4);have b9:=(a3.o.below M).c1;obtain⟨a9,c9,e9⟩:=qg a4;subst e9;clear a4 V)
  |(go_simp;go_at_call 115;(with_reducible refine(KR.o _ _ M a6.o).mono ?_);rintro e w3 ⟨u3,a7,rfl,a8,b0⟩))
 all_goals
  go_wp2_with fail
  go_ret
  exact⟨_,a7,rfl,a8.base (bM a5.o.size M.size),bt (bt a5.o M) b0⟩
theorem YH:∀{a b:LI},a.Pairwise (·< ·)->b.Pairwise (·< ·)->(∀x,x∈a↔x∈b)->a=b
 |[],[],_,_,_=>rfl
 |[],y::b,_,_,h=>by have:=(h y).2 (List.mem_cons_self ..);cases this
 |x::a,[],_,_,h=>by have:=(h x).1 (List.mem_cons_self ..);cases this
 |x::a,y::b,ha,hb,h=>by
  rw[List.pairwise_cons]at ha hb;have K:x=y:=by
   rcases List.mem_cons.1 ((h x).1 (List.mem_cons_self ..))with e|e;exact e;rcases List.mem_cons.1 ((h y).2 (List.mem_cons_self ..))with M|M;exact M.symm;have O:=hb.1 x e;have U:=ha.1 y M;omega
  subst K;rw[YH (a:=a) (b:=b) ha.2 hb.2 λz=>?_];constructor
  ·intro I;rcases List.mem_cons.1 ((h z).1 (mC _ I))with e|e;subst e;have:=ha.1 _ I;omega;exact e
  intro I;rcases List.mem_cons.1 ((h z).2 (mC _ I))with e|e;subst e;have:=hb.1 _ I;omega;exact e
theorem jS:∀(vs r:LI) (p:Nat),vs.Pairwise (·< ·)->p<vs.length->vlF vs r (vs.getD p 0)=r.getD p 0
 |[],_,p,_,h=>by simp at h
 |x::vs,r,0,_,_=>by simp[vlF]
 |x::vs,r,p+1,h,hp=>by
  rw[List.pairwise_cons]at h;simp only[List.length_cons]at hp;have I:vs.getD p 0∈vs:=by rw[gD,gE Oo];exact gM _
  have K:=h.1 _ I;show vlF (x::vs) r (vs.getD p 0)=_;rw[vlF,if_neg Oo,jS vs (r.drop 1) p h.2 Oo,uY,Nat.add_comm]
theorem Zw(vs vars:LI):(plc (λi=>decide (vs.getD i 0∈vars)) vs.length).map (λp=>vs.getD p.toNat 0)=vs.filter (λx=>decide (x∈vars)):=by
 unfold plc;rw[List.map_map];have e:vs=(List.range vs.length).map (λi=>vs.getD i 0):=by
  refine List.ext_getElem? λi=>?_;by_cases h:i<vs.length;rw[bK,List.getElem?_range h,gE h,Option.map_some,gD,gE h];rfl;rw[gN Oo,gN Sy]
 have I:vs.filter (λx=>decide (x∈vars))=((List.range vs.length).filter λi=>decide (vs.getD i 0∈vars)).map λi=>vs.getD i 0:=by
  conv=>lhs;rw[e]
  rw[List.filter_map];rfl
 rw[I];rfl
theorem J3{r:LI}(K:vs.Pairwise (·< ·))(O:vars.Pairwise (·< ·))(hs:∀x∈vars,x∈vs):atP r (plc (λi=>decide (vs.getD i 0∈vars)) vs.length)=qI vs vars r:=by
 have hv:vs.filter (λx=>decide (x∈vars))=vars:=YH (K.filter _) O λx=>by
  rw[List.mem_filter,dE];exact⟨λh=>h.2,λh=>⟨hs x h,h⟩⟩
 unfold qI atP;conv=>rhs;rw[<-hv,<-Zw]
 rw[List.map_map];refine List.map_congr_left λp I=>?_;unfold plc at I;rw[List.mem_map]at I;obtain⟨j,M,e⟩:=I;rw[List.mem_filter,List.mem_range]at M;simp only[Int.ofNat_eq_natCast]at e;subst e;simp only[Function.comp_apply,Int.toNat_natCast];rw[jS vs r j K M.1]
theorem Vq(I:vs.Pairwise (·< ·))(K:vars.Pairwise (·< ·))(hs:∀x∈vars,x∈vs):zq rows (plc (λi=>decide (vs.getD i 0∈vars)) vs.length)=rows.map (qI vs vars):=
 List.map_congr_left λ_ _=>J3 I K hs
def Qz(a b:LI):Bool:=a.all λx=>decide (x∈b)
theorem J4(a b:LI):decide ((plc (λi=>decide (a.getD i 0∈b)) a.length).length<a.length)=!Qz a b:=by
 have key:∀n,(∀i,i<n->decide (a.getD i 0∈b)=true)/\(plc (λi=>decide (a.getD i 0∈b)) n).length=n∨(∃i,i<n/\decide (a.getD i 0∈b)=false)/\(plc (λi=>decide (a.getD i 0∈b)) n).length<n:=by
  intro n;induction n with
  |zero=>exact Or.inl ⟨λi hi=>Oo,rfl⟩
  |succ n M=>
   cases hd:decide (a.getD n 0∈b)
   have:=xp (λi=>decide (a.getD i 0∈b)) n;rw[jQ _ _ hd];exact Or.inr ⟨⟨n,Oo,hd⟩,Oo⟩;rw[kI _ _ hd,lA,lS];rcases M with ⟨I,K⟩|⟨⟨i,hi,I⟩,K⟩
   ·refine Or.inl ⟨λi hi=>?_,Oo⟩;by_cases e:i=n;rw[e];exact hd;exact I i Oo
   exact Or.inr ⟨⟨i,Oo,I⟩,Oo⟩
 unfold Qz;rcases key a.length with ⟨I,K⟩|⟨⟨i,hi,I⟩,K⟩
 ·rw[decide_eq_false Oo];have:(a.all λx=>decide (x∈b))=true:=by
   rw[aT];intro x O;obtain⟨i,hi,e⟩:=gO O;have:=I i hi;rw[gD,gE hi,Option.getD_some,e]at this;exact this
  rw[this];rfl
 rw[decide_eq_true K];have:(a.all λx=>decide (x∈b))=false:=by
  rw[List.all_eq_false];refine⟨a[i],gM _,?_⟩;rw[gD,gE hi,Option.getD_some]at I;rw[I];decide
 rw[this];rfl
theorem Zc:∀(n:Nat) {a b:LI},qE a b<=0->qE (a.take n) (b.take n)<=0
 |0,a,b,_=>by simp[qE]
 |n+1,[],[],_=>by simp[qE]
 |n+1,[],y::b,_=>by simp[qE]
 |n+1,x::a,[],h=>by simp[qE]at h
 |n+1,x::a,y::b,h=>by
  simp only[List.take_succ_cons];unfold qE at h ⊢;by_cases I:x<y;rw[if_pos I];omega;rw[if_neg I]at h ⊢;by_cases K:y<x;rw[if_pos K]at h;omega;rw[if_neg K]at h ⊢;exact Zc n h
theorem qFs{a b c:LI}(K:qE a b<=0)(I:qE b c<0):qE a c<0:=by
 rcases Int.lt_or_eq_of_le K with h|h;exact xE h I;rw[yD h];exact I
theorem qCI(h:SL rows)(M:i<=j)(I:j<rows.length):qE (rows.getD i []) (rows.getD j [])<=0:=by
 rcases Nat.lt_or_ge i j with K|K;have:=List.pairwise_iff_getElem.1 h i j Oo I K;rw[gD,gE Oo,gD,gE I];exact Int.le_of_lt this;rw[show i=j by omega,zt];exact Int.le_refl _
structure Sk(rows:LL)(q:LI)(k:Nat):Prop where
 le:k<=rows.length
 lo:∀j,j<k->qE ((rows.getD j []).take q.length) q<0
 hi:∀j,k<=j->j<rows.length->¬qE ((rows.getD j []).take q.length) q<0
def y7(rows:LL)(q:LI):Bool:=rows.any λr=>decide (r.take q.length=q)
theorem qBO(h:SL rows)(I:i<=j)(K:j<rows.length)(M:qE ((rows.getD j []).take q.length) q<0):qE ((rows.getD i []).take q.length) q<0:=
 qFs (Zc _ (qCI h I K)) M
theorem Sk.beg(hS:SL rows)(h:Sk rows q k):y7 rows q=(decide (k<rows.length)&&decide (qE ((rows.getD k []).take q.length) q=0)):=by
 unfold y7;by_cases I:k<rows.length/\qE ((rows.getD k []).take q.length) q=0;rw[decide_eq_true I.1,decide_eq_true I.2];refine List.any_eq_true.2 ⟨rows[k]'I.1,gM _,decide_eq_true ?_⟩;have:=yD I.2;rw[gD,gE I.1]at this;exact this;have e:(decide (k<rows.length)&&decide (qE ((rows.getD k []).take q.length) q=0))=false:=by
  rcases Classical.em (k<rows.length)with K|K;rw[decide_eq_false (p:=qE _ q=0) (λh2=>I ⟨K,h2⟩)];simp;rw[decide_eq_false K];rfl
 rw[e,List.any_eq_false];intro r hr M;obtain⟨j,U,ej⟩:=gO hr;have M:=of_decide_eq_true M;have V:(rows.getD j []).take q.length=q:=by rw[gD,gE U,<-M,<-ej];simp
 have O:k<=j:=by
  rcases Nat.lt_or_ge j k with K|K;have:=h.lo j K;rw[V,zt]at this;omega;exact K
 have h3:=Zc q.length (qCI hS O U);rw[V]at h3;have h4:=h.hi k (nR _) Oo;exact I ⟨Oo,Oo⟩
def shr(va vb:LI):LI:=va.filter λx=>decide (x∈vb)
theorem Q7(h:I.Pairwise (·< ·)):(shr I vb).Pairwise (·< ·):=h.filter _
theorem uI{x:Int}(h:x∈shr I vb):x∈I:=(List.mem_filter.1 h).1
theorem vC{x:Int}(h:x∈shr I vb):x∈vb:=of_decide_eq_true (List.mem_filter.1 h).2
theorem vE(I vb:LI):(shr I vb).length<=I.length:=List.length_filter_le _ _
theorem QH(I vb:LI):atP I (plc (λi=>decide (I.getD i 0∈vb)) I.length)=shr I vb:=Zw I vb
theorem qFt(I vb:LI):plc (λi=>decide (I.getD i 0∈shr I vb)) I.length=plc (λi=>decide (I.getD i 0∈vb)) I.length:=by
 unfold plc;congr 1;refine List.filter_congr λi hi=>?_;rw[List.mem_range]at hi;have K:I.getD i 0∈I:=by rw[gD,gE hi];exact gM _
 refine decide_eq_decide.2 ⟨vC,λh=>List.mem_filter.2 ⟨K,decide_eq_true h⟩⟩
theorem qBP{r:LI}(h:I.Pairwise (·< ·)):atP r (plc (λi=>decide (I.getD i 0∈vb)) I.length)=qI I (shr I vb) r:=by
 rw[<-qFt];exact J3 h (Q7 h) λx=>uI
def XV(va vb:LI)(rb:LL):LL:=srt (rb.map (qI vb (shr va vb)))
def VM(va vb:LI)(rb:LL)(r:LI):Bool:=decide (qI va (shr va vb) r∈XV va vb rb)
theorem qEc{rb:LL}:∀r∈XV I vb rb,r.length=(shr I vb).length:=λr K=>by
 rw[XV,(zu _ _ (nR _)).2]at K;obtain⟨q,-,rfl⟩:=List.mem_map.1 K;exact yT _ _ _
theorem qFu(I vb:LI)(rb:LL):SL (XV I vb rb):=(zu _ _ (nR _)).1
theorem qFv(I vb:LI)(rb:LL):(XV I vb rb).length<=rb.length:=bM (xT _ _ (nR _)) (by rw[lM];exact nR _)
def kp(p:Nat->Bool)(n:Nat):List Nat:=(List.range n).filter p
def kpR(p:Nat->Bool)(rows:LL)(n:Nat):LL:=(kp p n).map λi=>rows.getD i []
def kpW(p:Nat->Bool)(ws:LI)(n:Nat):LI:=(kp p n).map λi=>ws.getD i 0
theorem Q8(h:p n=true):kp p (n+1)=kp p n++[n]:=by
 unfold kp;rw[List.range_succ,List.filter_append];simp[h]
theorem kP(h:p n=false):kp p (n+1)=kp p n:=by
 unfold kp;rw[List.range_succ,List.filter_append];simp[h]
theorem Kr(p:Nat->Bool)(n:Nat):(kp p n).length<=n:=bM (List.length_filter_le _ _) Ss
theorem qBQ(rows:LL)(h:p n=true):kpR p rows (n+1)=kpR p rows n++[rows.getD n []]:=by unfold kpR;rw[Q8 h,mA];rfl
theorem qFw(ws:LI)(h:p n=true):kpW p ws (n+1)=kpW p ws n++[ws.getD n 0]:=by unfold kpW;rw[Q8 h,mA];rfl
theorem Ks(rows:LL)(h:p n=false):kpR p rows (n+1)=kpR p rows n:=by unfold kpR;rw[kP h]
theorem qEd(ws:LI)(h:p n=false):kpW p ws (n+1)=kpW p ws n:=by unfold kpW;rw[kP h]
theorem qFx(p:Nat->Bool)(rows:LL)(n:Nat):(kpR p rows n).length<=n:=by unfold kpR;rw[lM];exact Kr p n
theorem qFy(p:Nat->Bool)(ws:LI)(n:Nat):(kpW p ws n).length<=n:=by unfold kpW;rw[lM];exact Kr p n
def vlA(R:LL)(q:LI)(i:Nat):Int:=(R.getD i []).getD q.length 0
def Qo(R:LL)(q:LI)(k j:Nat):Bool:=decide (j=0)||!decide (vlA R q (k+j-1)=vlA R q (k+j))
def VA(R:LL)(q:LI)(k n:Nat):LI:=(kp (Qo R q k) n).map λj=>vlA R q (k+j)
structure Run(R:LL)(q:LI)(k n:Nat):Prop where
 le:k+n<=R.length
 beg:∀j,j<n->(R.getD (k+j) []).take q.length=q
section
variable {R:LL} {q:LI} {k n:Nat}
theorem Yv(hl:∀r∈R,q.length<r.length)(hi:i<R.length)(h:(R.getD i []).take q.length=q):q++[vlA R q i] <+:R.getD i []:=by
 have I:R.getD i []∈R:=by rw[gD,gE hi];exact gM hi
 have K:=hl _ I;have e:q++[vlA R q i]=(R.getD i []).take (q.length+1):=by rw[qy K,h];rfl
 rw[e];exact List.take_prefix _ _
theorem qCv(K:SL R)(hl:∀r∈R,q.length<r.length)(M:i<=j)(I:j<R.length)(O:(R.getD i []).take q.length=q)(U:(R.getD j []).take q.length=q):vlA R q i<=vlA R q j:=by
 by_cases e:i=j;subst e;exact Int.le_refl _;refine qDZ (Yv hl Oo O) (Yv hl I U) ?_;rw[gD,gE (show i<R.length by omega),gD,gE I];exact List.pairwise_iff_getElem.1 K i j Oo I Oo
theorem Jg(x:Int):∀n,x∈VA R q k n↔∃j,j<n/\vlA R q (k+j)=x
 |0=>by unfold VA kp;simp
 |n+1=>by
  have M:=Jg x n;cases hb:Qo R q k n
  ·have e:VA R q k (n+1)=VA R q k n:=by unfold VA;rw[kP hb]
   rw[e,M];constructor;rintro⟨j,I,h⟩;exact⟨j,Oo,h⟩;rintro⟨j,I,h⟩;by_cases K:j=n;subst K;unfold Qo at hb;rw[Bool.or_eq_false_iff,decide_eq_false_iff_not,Bool.not_eq_false',dE]at hb;exact⟨j-1,Oo,by rw[show k+(j-1)=k+j-1 by omega,hb.2];exact h⟩;exact⟨j,Oo,h⟩
  have e:VA R q k (n+1)=VA R q k n++[vlA R q (k+n)]:=by unfold VA;rw[Q8 hb,mA];rfl
  rw[e,List.mem_append,M,List.mem_singleton];constructor
  ·rintro (⟨j,I,h⟩|h);exact⟨j,Oo,h⟩;exact⟨n,Oo,h.symm⟩
  rintro⟨j,I,h⟩;by_cases K:j=n;subst K;exact Or.inr h.symm;exact Or.inl ⟨j,Oo,h⟩
theorem qCw(K:SL R)(hl:∀r∈R,q.length<r.length):∀n,Run R q k n->(VA R q k n).Pairwise (·< ·)
 |0,_=>by unfold VA kp;simp
 |n+1,h=>by
  have M:=qCw K hl n ⟨by have:=h.le;omega,λj O=>h.beg j Oo⟩;cases hb:Qo R q k n
  ·have e:VA R q k (n+1)=VA R q k n:=by unfold VA;rw[kP hb]
   rw[e];exact M
  have e:VA R q k (n+1)=VA R q k n++[vlA R q (k+n)]:=by unfold VA;rw[Q8 hb,mA];rfl
  rw[e,List.pairwise_append];refine⟨M,List.pairwise_singleton _ _,λa U b I=>?_⟩;rw[List.mem_singleton]at I;subst I;obtain⟨j,O,rfl⟩:=(Jg a n).1 U;have hle:=h.le;unfold Qo at hb;rw[Bool.or_eq_true,dE,Bool.not_eq_true',decide_eq_false_iff_not]at hb;rcases hb with hb|hb;omega;have V:=qCv K hl (i:=k+j) (j:=k+n-1) Oo Oo (h.beg j Oo) (by have:=h.beg (n-1) Oo;rw[show k+(n-1)=k+n-1 by omega]at this;exact this);have h2:=qCv K hl (i:=k+n-1) (j:=k+n) Oo Oo (by have:=h.beg (n-1) Oo;rw[show k+(n-1)=k+n-1 by omega]at this;exact this) (h.beg n Oo);omega
theorem qGX(U:SL R)(hl:∀r∈R,q.length<r.length)(O:Sk R q k)(h:Run R q k n)(V:k+n<R.length->(R.getD (k+n) []).take q.length≠q)(x:Int):x∈VA R q k n↔∃r∈R,q++[x] <+:r:=by
 rw[Jg];constructor;rintro⟨j,hj,rfl⟩;have hle:=h.le;refine⟨R.getD (k+j) [],?_,Yv hl Oo (h.beg j hj)⟩;rw[gD,gE Oo];exact gM _;rintro⟨r,hr,M⟩;obtain⟨i,hi,rfl⟩:=gO hr;have hg:R.getD i []=R[i]:=by rw[gD,gE hi];rfl
 rw[<-hg]at M;obtain⟨g1,g2,g3⟩:=qAC M;have K:(R.getD i []).take q.length=q:=by
  obtain⟨t,K⟩:=M;rw[<-K,List.append_assoc,List.take_left]
 have a3:k<=i:=by
  rcases Nat.lt_or_ge i k with I|I;have:=O.lo i I;rw[K,zt]at this;omega;exact I
 have a4:i<k+n:=by
  rcases Nat.lt_or_ge i (k+n)with I|I;exact I;exfalso;have h2:=Zc q.length (qCI U I hi);rw[K]at h2;have h3:=O.hi (k+n) Oo Oo;exact V Oo (yD Oo)
 exact⟨i-k,Oo,by rw[show k+(i-k)=i by omega];exact g3⟩
end
end Go.Proofs.YtcnfapnfmnolbaaGreat
