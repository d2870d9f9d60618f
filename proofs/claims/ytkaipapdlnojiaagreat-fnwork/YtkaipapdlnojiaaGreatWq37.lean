import Derived.DeepKeys4
import Derived.Maps.OwnOps
import Derived.Maps.OwnSet
import Derived.Maps.Views
import Derived.Test.YtkaipapdlnojiaaGreatWq24
import Derived.Test.YtkaipapdlnojiaaGreatWq36
set_option maxHeartbeats 40000000
set_option maxRecDepth 1000000
namespace Go.Proofs.YtkaipapdlnojiaaGreat
open Go.RowKit
variable {xs:List Value}{k n off p q s u:Nat}{x:Nat->Rat}{o:Obj}{e:TypeId}{v:Value}{W w:World}
structure TRp(W:World)(g:Nat)(x y:Int):Prop where
 typ:∃cur,W.heap[g]?=some (.cells cur 28 (0,0))
 two:Two W g x y
section
variable {W W' w3:World} {g B:Nat} {x y:Int} {v:Value} {o:Obj}
theorem TRp.lt(h:TRp W g x y):g < W.heap.size:=zm h.typ
theorem TRp.below(h:TRp W g x y)(hb:Bl W W'):TRp W' g x y:=⟨by rw[hb.block g h.lt];exact h.typ,h.two.below h.lt hb⟩
theorem TRp.move(h:TRp W g x y)(e:W'.heap[g]?=W.heap[g]?):TRp W' g x y:=
 ⟨by rw[e];exact h.typ,(bF (w:=W) (a:=⟨g,0,none⟩) e).trans h.two.1,(bF (w:=W) (a:=⟨g,1,none⟩) e).trans h.two.2.1,(World.frozen?_of_block (w:=W) (a:=⟨g,0,none⟩) e).trans h.two.2.2.1,(World.frozen?_of_block (w:=W) (a:=⟨g,1,none⟩) e).trans h.two.2.2.2⟩
theorem TRp.new(W:World)(x y:Int):TRp (W.alloc (.cells #[.int .i64 x,.int .i64 y] 28)) W.heap.size x y:=
 ⟨⟨_,heap_alloc_new _ _⟩,by rw[cA _ _ _ _ rfl];rfl,by rw[cA _ _ _ _ rfl];rfl,World.frozen?_alloc_at _ _ _ _ rfl,World.frozen?_alloc_at _ _ _ _ rfl⟩
theorem TRp.set(h:TRp W g x y)(I K:Int):TRp ((W.setCell ⟨g,0,none⟩ (.int .i64 I)).setCell ⟨g,1,none⟩ (.int .i64 K)) g I K:=⟨qD (qD h.typ),h.two.set I K⟩
theorem TRp.other{g':Nat}(h:TRp W g x y)(I:g≠g')(a b:Value):TRp ((W.setCell ⟨g',0,none⟩ a).setCell ⟨g',1,none⟩ b) g x y:=
 h.move (by rw[bE _ _ _ _ (by exact I),bE _ _ _ _ (by exact I)])
theorem TRp.grow(h:TRp W g x y)(I:some g≠v.ownBlock)(K:(W.alloc o).grownBy w3 v.ownBlock)(_hown:W.ownsRow B 28 2 v n xs):TRp w3 g x y:=h.move (qV K h.lt I)
end
theorem qA0(w:World)(x y:Value)(t:TypeId):∀j u,[x,y][j]?=some u->(w.alloc (.cells #[x,y] t)).cell? ((⟨w.heap.size,0,none⟩:Addr).add j)=some u:=by
 intro j u I;match j,I with
 |0,I=>simp at I;subst I;simp[Addr.add]
 |1,I=>simp at I;subst I;simp[Addr.add]
theorem jo(w:World)(vb ve:Value)(bs es:List (List Int))(hb:ISS w vb bs)(h3:bs.length<=1000)(h:ISS w ve es)(hl:zS es)(he:qj es=true)(hg:∀i,i < bs.length->GoodBag es (bs.getD i [])/\1<=(bs.getD i []).length):
 Cl 41 #[vb,ve] w λe w'=>∃v,e=.returned (.tuple #[v,.agg #[.int .i64 (zW (λi=>wdR es (bs.getD i [])) bs.length).num,.int .i64 (zW (λi=>wdR es (bs.getD i [])) bs.length).den]])/\
  w'.ownsRow w.heap.size 28 2 v bs.length (rcs (prs bs.length (λi=>wdR es (bs.getD i []))))/\Bl w w':=by
 obtain⟨iR,hi,h4,h5,h6⟩:=info_parts Tryz.infoRatS;have h7:=hid h;have HL:=hid hl;obtain⟨aE,cE,rfl,-⟩:=h
 have KW:Hid (∀W u i,Bl w W->i < bs.length->IS W u (bs.getD i [])->Cl 75 #[u,.slice aE es.length cE] W λe w'=>e=.returned (.agg #[.int .i64 (wdR es (bs.getD i [])).num,.int .i64 (wdR es (bs.getD i [])).den])/\Bl W w'):=
  hid λW u i hW hi hu=>VZ W u _ (bs.getD i []) es hu (h7.out.below hW) HL.out he (hg i hi).1 (hg i hi).2
 have c8:Hid (∀i,i < bs.length->Sm 36000 (wdR es (bs.getD i []))):=hid λi hi=>(hg i hi).1.sm he;have c9:Hid (∀k,k<=bs.length->Sm 36000 (zW (λi=>wdR es (bs.getD i [])) k)):=hid λk hk=>U2 Oo (λi hi=>c8.out i Oo);obtain⟨a,cap,rfl,hc⟩:=hb;have HC:=hid hc;obtain⟨f,hf⟩:∃f:Nat->Rat,f=λi=>wdR es (bs.getD i []):=⟨_,rfl⟩;have h8:Hid (∀i,wdR es (bs.getD i [])=f i):=hid λi=>by rw[hf]
 rw[<-hf]at c9 ⊢;have h9:Hid (∀k,zW f k < f k->zW f (k+1)=f k):=hid λk hk=>by show(if _ then _ else _)=_;rw[if_pos hk]
 have i0:Hid (∀k,¬zW f k < f k->zW f (k+1)=zW f k):=hid λk hk=>by show(if _ then _ else _)=_;rw[if_neg hk]
 have H0:Hid (zW f 0=0):=hid rfl;have i2:=hid (λk=>ui k f);have i3:Hid (rcs (prs 0 f)=[]):=hid rfl;obtain⟨n,hn⟩:∃n,n=bs.length:=⟨_,rfl⟩;rw[<-hn]at h3 KW c8 c9 HC ⊢;clear hc hf hn hg hl he;generalize zW f=MN at *;have a8:Bl w (w.alloc (.cells #[.int .i64 0,.int .i64 0] 28)):=(bM _ _).alloc (bK _) _;have M:=a8.alloc a8.size (.cells #[] 28);have f4:=M.alloc M.size (.cells #[.int .i64 0,.int .i64 1] 28);have hA:∀W:World,∀o,Bl W (W.alloc o):=λW o=>(bM _ _).alloc (bK _) _;have t1:=((TRp.new w 0 0).below (hA _ (.cells #[] 28))).below (hA _ (.cells #[.int .i64 0,.int .i64 1] 28));have t2:=TRp.new ((w.alloc (.cells #[.int .i64 0,.int .i64 0] 28)).alloc (.cells #[] 28)) 0 1;have ow:((w.alloc (.cells #[.int .i64 0,.int .i64 0] 28)).alloc (.cells #[] 28)).ownsRow w.heap.size 28 2 (.slice (some ⟨(w.alloc (.cells #[.int .i64 0,.int .i64 0] 28)).heap.size,0,none⟩) 0 0) 0 []:=oM (w.alloc (.cells #[.int .i64 0,.int .i64 0] 28)) #[] 0 a8.size Dd rfl;have d0:=qB ow (hA _ (.cells #[.int .i64 0,.int .i64 1] 28));have s1:(w.alloc (.cells #[.int .i64 0,.int .i64 0] 28)).heap.size=w.heap.size+1:=Ss;have s2:((w.alloc (.cells #[.int .i64 0,.int .i64 0] 28)).alloc (.cells #[] 28)).heap.size=w.heap.size+1+1:=Ss;rw[s1]at d0;rw[s2]at t2
 have HX:Hid (Bl w (((w.alloc (.cells #[.int .i64 0,.int .i64 0] 28)).alloc (.cells #[] 28)).alloc (.cells #[.int .i64 0,.int .i64 1] 28))/\TRp (((w.alloc (.cells #[.int .i64 0,.int .i64 0] 28)).alloc (.cells #[] 28)).alloc (.cells #[.int .i64 0,.int .i64 1] 28)) w.heap.size 0 0/\TRp (((w.alloc (.cells #[.int .i64 0,.int .i64 0] 28)).alloc (.cells #[] 28)).alloc (.cells #[.int .i64 0,.int .i64 1] 28)) (w.heap.size+1+1) 0 1/\
  (((w.alloc (.cells #[.int .i64 0,.int .i64 0] 28)).alloc (.cells #[] 28)).alloc (.cells #[.int .i64 0,.int .i64 1] 28)).ownsRow w.heap.size 28 2 (.slice (some ⟨w.heap.size+1,0,none⟩) 0 0) 0 []):=hid ⟨f4,t1,t2,d0⟩
 clear a8 M f4 hA t1 t2 ow d0 s1 s2;go_enter Tryz.func41,Tryz.ntmps41
 go_wp2;go_loopw [6,15] (λv t wr=>∃(k:Nat) (vc:Value),k<=n/\t=.int .i64 k/\vc=v/\w.heap.size+1+1 < wr.heap.size/\Hid (Bl w wr/\TRp wr w.heap.size 0 0/\TRp wr (w.heap.size+1+1) (MN k).num (MN k).den/\wr.ownsRow w.heap.size 28 2 vc k (rcs (prs k f))/\∀g,vc.ownBlock=some g->g≠w.heap.size/\g≠w.heap.size+1+1)) (λ_ t _=>n - (intOf t).toNat)
 case atStart=>
  refine⟨0,_,nZ _,rfl,rfl,Ss,hid ⟨HX.out.1,HX.out.2.1,by rw[H0.out];exact HX.out.2.2.1,by rw[i3.out];exact HX.out.2.2.2,λg hg=>?_⟩⟩;have:=jx hg;omega
 case round=>
  clear HX;obtain⟨k,vc,i4,rfl,rfl,j6,hH⟩:=hrel;generalize wr=W1 at *;have a2:=hid hH.out.1;have V:=hid hH.out.2.1;have a9:=hid hH.out.2.2.1;have d6:=hid hH.out.2.2.2.1;have b0:=hid hH.out.2.2.2.2;clear hH;by_cases d7:k < n
  ·have i1:(k:Int) < (n:Int):=Oo;rcases HC.out with h0|⟨b,o,rfl,a3⟩
   ·omega
   obtain⟨u,e1,hu⟩:=a3 k d7;have c1:=U1 a2.out e1;have d8:=hid (KW.out W1 u k a2.out d7 (hu.below a2.out));have d9:=c8.out k d7;have f7:=c9.out k i4;rw[h8.out k]at d8 d9;have KL:Hid (∀W,Cl 76 #[.agg #[.int .i64 (MN k).num,.int .i64 (MN k).den],.agg #[.int .i64 (f k).num,.int .i64 (f k).den]] W λe w'=>e=.returned (.bool (decide (MN k < f k)))/\Bl W w'):=hid λW=>ur (MN k) (f k) W f7 d9 Dd;have e0:=h9.out k;have e7:=i0.out k;have i5:=hid (i2.out k);obtain⟨a1,j4,rfl,-⟩:=hu;clear a3 e1 d9 f7;generalize (bs.getD k []).length=lk at *;generalize hx:(f k).num=x at *;generalize hy:((f k).den:Int)=y at *;generalize hx0:(MN k).num=x0 at *;generalize hy0:((MN k).den:Int)=y0 at *;have HX:=hid hx;have HY:=hid hy;have i6:=hid hx0;have i7:=hid hy0;clear hx hy hx0 hy0;go_wp2_with fail
   refine d8.out.mono ?_;rintro e W2 ⟨rfl,M⟩;have k0:=hid M;have hA:Bl W2 (W2.alloc (.cells #[.int .i64 x,.int .i64 y] 28)):=(bM _ _).alloc (bK _) _;have a4:=hid (TRp.new W2 x y);have c7:=hid (bt M hA);have i8:=hid (qB d6.out (bt M hA));have i9:=hid (a9.out.below (bt M hA));have j0:=hid (V.out.below (bt M hA));have d1:=a4.out.two.1;have d2:=a4.out.two.2.1;have f8:=M.size;clear M hA d8 c1 V a9;go_upto_region 7 with fail
   obtain⟨G,hG⟩:∃G,G=W2.heap.size:=⟨_,rfl⟩;rw[<-hG]at a4 d1 d2 f8 ⊢;clear hG;generalize W2.alloc (.cells #[.int .i64 x,.int .i64 y] 28)=W3 at *;have O:=i8.out;have f9:=(bt a2.out c7.out).size;have j5:=a4.out.lt
   go_wp2_with (first
    |(at_builtin;refine wpList_append_lies _ rfl _ _ 26 rfl w.heap.size 28 iR (.agg #[.int .i64 0,.int .i64 0]) 2 16 Tryz.underlying26 hi h4 h5 h6 rfl Dd _ _ _ rfl (O.alloc _) ⟨W3.heap.size,0,none⟩ 1 1 [.int .i64 x,.int .i64 y] rfl rfl ?ka1 ?ka2 Dd ?ka3 ?ka4 ?ka5 _ rfl ?_)|fail)
   case ka1=>exact qA0 _ _ _ _
   case ka2=>intro u hu;simp at hu;rcases hu with rfl|rfl <;> rfl
   case ka3=>unfold maxLen;omega
   case ka4=>omega
   case ka5=>exact bQ f9 Ss
   intro g cp w4 a5 K g2 k1
   have g4:some G≠vc.ownBlock:=λe=>by
    have:=(d6.out.lt G e.symm).2;omega
   have g5:=j0.out.grow (λe=>(b0.out _ e.symm).1 rfl) K O;have b7:=i9.out.grow (λe=>(b0.out _ e.symm).2 rfl) K O;have b9:=a4.out.grow g4 K O;have g6:=qe f9 O (bt a2.out c7.out) K
   have k4:W3.heap.size < w4.heap.size:=by
    have:=K.size;simp at this;omega
   have e8:Hid (∀g',(Value.slice (some ⟨g,0,none⟩) (k+1) cp).ownBlock=some g'->g'≠w.heap.size/\g'≠w.heap.size+1+1):=hid λg' e=>by
    have e2:=jx e;subst e2;rcases g2 with h1|h1
    ·exact b0.out _ h1
    ·omega
   have g7:Hid (w4.ownsRow w.heap.size 28 2 (.slice (some ⟨g,0,none⟩) (k+1) cp) (k+1) (rcs (prs (k+1) f))):=hid (by rw[i5.out];exact a5);have g8:=hid g5;have g9:=hid b7;have j1:=hid b9;have h2:=hid g6;have y1:=b7.two.1;have y2:=b7.two.2.1;have y3:=b9.two.1;have y4:=b9.two.2.1;clear g5 b7 b9 g6 a5 K g2 O g4 d1 d2;by_cases U:MN k < f k
   ·have HE:=hid (e0 U);have a6:=hid (KL.out w4);rw[decide_eq_true U]at a6;clear e0 e7 KL U;go_wp2_with fail
    refine a6.out.mono ?_;rintro e w5 ⟨rfl,I⟩;have q1:=g9.out.below I;have q2:=j1.out.below I;have q3:=g8.out.below I;have e1:=q1.two.1;have e2:=q1.two.2.1;have e3:=q1.two.2.2.1;have e4:=q1.two.2.2.2;have e5:=q2.two.1;have e6:=q2.two.2.1;have j2:=I.size
    have HF:Hid (Bl w ((w5.setCell ⟨w.heap.size+1+1,0,none⟩ (.int .i64 x)).setCell ⟨w.heap.size+1+1,1,none⟩ (.int .i64 y))/\TRp ((w5.setCell ⟨w.heap.size+1+1,0,none⟩ (.int .i64 x)).setCell ⟨w.heap.size+1+1,1,none⟩ (.int .i64 y)) w.heap.size 0 0/\TRp ((w5.setCell ⟨w.heap.size+1+1,0,none⟩ (.int .i64 x)).setCell ⟨w.heap.size+1+1,1,none⟩ (.int .i64 y)) (w.heap.size+1+1) (MN (k+1)).num (MN (k+1)).den/\
     ((w5.setCell ⟨w.heap.size+1+1,0,none⟩ (.int .i64 x)).setCell ⟨w.heap.size+1+1,1,none⟩ (.int .i64 y)).ownsRow w.heap.size 28 2 (.slice (some ⟨g,0,none⟩) (k+1) cp) (k+1) (rcs (prs (k+1) f))/\∀g',(Value.slice (some ⟨g,0,none⟩) (k+1) cp).ownBlock=some g'->g'≠w.heap.size/\g'≠w.heap.size+1+1):=hid (by
     refine⟨((bt h2.out I).setCell (by show w.heap.size<=w.heap.size+1+1;omega) _).setCell (by show w.heap.size<=w.heap.size+1+1;omega) _,q3.other Oo _ _,by rw[HE.out,HX.out,HY.out];exact q1.set _ _,?_,e8.out⟩
     exact qA (qB g7.out I) (λg' e9=>by
      have a7:=(e8.out g' e9).2;rw[bE _ _ _ _ (by exact a7),bE _ _ _ _ (by exact a7)]))
    clear I q1 q2 q3;go_wp2_with fail
    go_roundw
    case rel=>exact⟨k+1,_,Oo,Gg,rfl,by simp[World.setCell];omega,HF⟩
    case measure=>simp[intOf];omega
   ·have HE:=hid (e7 U);have a6:=hid (KL.out w4);rw[decide_eq_false U]at a6;clear e0 e7 KL U;go_wp2_with fail
    refine a6.out.mono ?_;rintro e w5 ⟨rfl,I⟩;have j2:=I.size
    have HF:Hid (Bl w w5/\TRp w5 w.heap.size 0 0/\TRp w5 (w.heap.size+1+1) (MN (k+1)).num (MN (k+1)).den/\
     w5.ownsRow w.heap.size 28 2 (.slice (some ⟨g,0,none⟩) (k+1) cp) (k+1) (rcs (prs (k+1) f))/\∀g',(Value.slice (some ⟨g,0,none⟩) (k+1) cp).ownBlock=some g'->g'≠w.heap.size/\g'≠w.heap.size+1+1):=hid
     ⟨bt h2.out I,g8.out.below I,by rw[HE.out,i6.out,i7.out];exact g9.out.below I,qB g7.out I,e8.out⟩
    clear I;go_wp2_with fail
    go_roundw
    case rel=>exact⟨k+1,_,Oo,Gg,rfl,Oo,HF⟩
    case measure=>simp[intOf];omega
  ·obtain rfl:k=n:=Oo;have i1:¬((k:Int) < (k:Int)):=Oo;have c1:=V.out.two.1;have c2:=V.out.two.2.1;have c3:=V.out.two.2.2.1;have c4:=V.out.two.2.2.2;have e1:=a9.out.two.1;have e2:=a9.out.two.2.1;generalize hx:(MN k).num=x at *;generalize hy:((MN k).den:Int)=y at *;have HX:=hid hx;have HY:=hid hy;clear hx hy
   have HF:Hid (∀W',W'=((W1.setCell ⟨w.heap.size,0,none⟩ (.int .i64 x)).setCell ⟨w.heap.size,1,none⟩ (.int .i64 y)).drew->W'.cell? ⟨w.heap.size,0,none⟩=some (.int .i64 x)/\W'.cell? ⟨w.heap.size,1,none⟩=some (.int .i64 y)/\W'.ownsRow w.heap.size 28 2 vc k (rcs (prs k f))/\Bl w W'):=hid λW' e=>by
    have q:=V.out.set x y;have j3:Bl w ((W1.setCell ⟨w.heap.size,0,none⟩ (.int .i64 x)).setCell ⟨w.heap.size,1,none⟩ (.int .i64 y)):=(a2.out.setCell (bK _) _).setCell (bK _) _;have hb:=j3.drew;have hh:∀b:Nat,W'.heap[b]?=((W1.setCell ⟨w.heap.size,0,none⟩ (.int .i64 x)).setCell ⟨w.heap.size,1,none⟩ (.int .i64 y)).heap[b]?:=λb=>by rw[e];rfl
    refine⟨(bF (w:=(W1.setCell ⟨w.heap.size,0,none⟩ (.int .i64 x)).setCell ⟨w.heap.size,1,none⟩ (.int .i64 y)) (a:=⟨w.heap.size,0,none⟩) (hh w.heap.size)).trans q.two.1,(bF (w:=(W1.setCell ⟨w.heap.size,0,none⟩ (.int .i64 x)).setCell ⟨w.heap.size,1,none⟩ (.int .i64 y)) (a:=⟨w.heap.size,1,none⟩) (hh w.heap.size)).trans q.two.2.1,qA d6.out (λg' e9=>?_),by rw[e];exact hb⟩;have a7:=(b0.out g' e9).1;rw[hh,bE _ _ _ _ (by exact a7),bE _ _ _ _ (by exact a7)]
   go_wp2_with fail
   go_region
   obtain⟨r1,r2,r3,r4⟩:=HF.out _ rfl;go_wp2;refine bodyPost_ret (v:=.tuple #[vc,.agg #[.int .i64 x,.int .i64 y]]) (by simp[results,Tryz.results41,go_sem,r1,r2]) rfl ⟨_,by rw[HX.out,HY.out],r3,r4⟩
theorem Tryz.underlying127':Tryz.prog.underlying 127=some (.slice 4):=by kernel_rfl
structure BAt(W:World)(b k:Nat)(R:Nat->Bool):Prop where
 cell:∀j,j < k->W.cell? ⟨b,j,none⟩=some (.bool (R j))
 free:∀j,j < k->W.frozen? ⟨b,j,none⟩=false
 lt:b < W.heap.size
section
variable {W W':World} {b k x:Nat} {R:Nat->Bool}
theorem BAt.below(h:BAt W b k R)(hb:Bl W W'):BAt W' b k R:=
 ⟨λj I=>(hb.cell (p:=⟨b,j,none⟩) h.lt).trans (h.cell j I),λj I=>(hb.frozen (p:=⟨b,j,none⟩) h.lt).trans (h.free j I),bV h.lt hb.size⟩
theorem BAt.set(h:BAt W b k R)(M:x < k):BAt (W.setCell ⟨b,x,none⟩ (.bool true)) b k (Bg.upd R x):=
 ⟨λj I=>by
  by_cases e:j=x
  ·subst e;rw[bI _ _ _ (h.cell j I)];simp[Bg.upd]
  ·rw[bD _ _ _ _ (by intro K;simp only[Addr.mk.injEq]at K;omega),h.cell j I];simp[Bg.upd,e],λj I=>by rw[fS];exact h.free j I,by rw[World.size_setCell];exact h.lt⟩
end
structure Bk(w wr:World)(k:Nat)(R:Nat->Bool):Prop where
 bel:Bl w wr
 at':BAt wr w.heap.size k R
theorem Bk.set{wr:World}{x:Nat}{R:Nat->Bool}(h:Bk w wr k R)(I:x < k):Bk w (wr.setCell ⟨w.heap.size,x,none⟩ (.bool true)) k (Bg.upd R x):=⟨h.bel.setCell (bK _) _,h.at'.set I⟩
theorem qEU{o:List Int}{i v:Nat}(I:∀a b,a < b->b < k->oN o a≠oN o b)(hq:q < k)(e:oN o q=v):(q<=i->Bg.E o i v)/\(i < q->¬Bg.E o i v):=by
 refine⟨λh=>⟨q,Oo,e⟩,λh K=>?_⟩;obtain⟨j,O,M⟩:=K;exact I j q Oo hq (M.trans e.symm)
theorem Jw(w:World)(ve vo:Value)(es:List (List Int))(o:List Int)(k i:Nat)(he:ISS w ve es)(hS:zS es)(ho:IS w vo o)(hk:k<=6)(hlen:o.length=k)(hi:i < k)
 (d9:∀e∈es,∀x∈e,0<=x/\x < (k:Int)) (a3:∀j,j < k->o.getD j 0=(oN o j:Int)/\oN o j < k) (a6:∀a b,a < b->b < k->oN o a≠oN o b)
 (e0:∀v,v < k->∃q,q < k/\oN o q=v) (hs:zi es (oN o i) (oN o i)=true):
 Cl 111 #[.int .i64 k,ve,vo,.int .i64 i] w λe w'=>∃v,e=.returned v/\w'.ownsRow w.heap.size 3 1 v (zw es o i).length ((zw es o i).map (Value.int .i64))/\Bl w w':=by
 obtain⟨i0,hit,j6,k0,k1⟩:=info_parts Tryz.infoInt;have g7:Hid (∀wr,Bl w wr->∀v:Nat,Cl 136 #[vo,.int .i64 v] wr λe w'=>e=.returned (.int .i64 (plI v o 0))/\w'=wr):=hid λwr hb v=>VK wr vo o v (ho.below hb) Oo
 have HQ:Hid (∀v,v < k->∃q,q < k/\plI (v:Int) o 0=(q:Int)/\oN o q=v):=hid λv hv=>by
  obtain⟨q,hq,e⟩:=e0 v hv;refine⟨q,hq,?_,e⟩;rw[<-e,<-(a3 q hq).1];refine qBy (λa b k4 hb O=>a6 a b k4 Oo ?_) (f:=q) Oo (nZ _) Oo;unfold oN;rw[O]
 have HE:Hid (∀v q,q < k->oN o q=v->(q<=i->Bg.E o i v)/\(i < q->¬Bg.E o i v)):=hid λv q hq e=>qEU a6 hq e;have k5:Hid (IS w vo o):=hid ho;have g8:Hid (ISS w ve es):=hid he
 have HB:Hid (∀R,Bg.Inv k es o i R->(∀v,R v=true->Bg.E o i v->Bg.Cl es R v)->∀p:Nat->Bool,(∀v,v < k->(p v=true↔R v=true/\∀j,j < i->oN o j≠v))->plc p k=zw es o i):=hid λR U V p h3=>
  Bg.bag_eq hk (λj q h4 h5=>a6 j q h4 Oo) Oo hs U V p h3
 have f4:Hid (Bg.Inv k es o i (Bg.upd (λ_=>false) (oN o i))):=hid (Bg.inv0 (a3 i hi).2)
 have g9:Hid (∀v q,q < k->oN o q=v->(i<=q↔∀j,j < i->oN o j≠v)):=hid λv q hq e=>by
  constructor
  ·intro h j hj O;exact a6 j q Oo hq (O.trans e.symm)
  ·intro h;by_cases V:i<=q
   ·exact V
   ·exact absurd e (h q Oo)
 have e3:Hid (∀j p,j < es.length->p < (es.getD j []).length->∃xn:Nat,(es.getD j []).getD p 0=(xn:Int)/\xn < k/\(xn:Int)∈es.getD j []):=hid λj p hj hp=>by
  have hm:es.getD j []∈es:=by rw[gD,bC hj];exact gM _
  have h6:(es.getD j []).getD p 0∈es.getD j []:=by
   generalize es.getD j []=e at *;rw[gD,bC hp];exact gM _
  have h3:=d9 _ hm _ h6;exact⟨((es.getD j []).getD p 0).toNat,Oo,Oo,by rw[show((((es.getD j []).getD p 0).toNat:Nat):Int)=(es.getD j []).getD p 0 by omega];exact h6⟩
 have e4:Hid (∀j,j < es.length->es.getD j []∈es):=hid λj hj=>by rw[gD,bC hj];exact gM _
 have h9:Hid (∀(R:Nat->Bool) (v:Nat),(∀j,j < es.length->(v:Int)∈es.getD j []->∀x∈es.getD j [],R x.toNat=true)->Bg.Cl es R v):=hid λR v h e k7 hv x hx=>by
  obtain⟨j,hj,rfl⟩:=gO k7;have e1:es.getD j []=es[j]:=by rw[gD,bC hj];rfl
  exact h j hj (by rw[e1];exact hv) x (by rw[e1];exact hx)
 have f7:=hid hS.2;have f8:=(a3 i hi).2;obtain⟨ae,ce,rfl,k8⟩:=he;obtain⟨ao,co,rfl,i5⟩:=ho
 have c9:Hid (∀wr,Bl w wr->∀j,j < es.length->∃b of u,ae=some ⟨b,of,none⟩/\wr.cell? ⟨b,of+j,none⟩=some u/\IS wr u (es.getD j [])):=hid λwr hb j hj=>by
  obtain⟨a',c',e,h⟩:=g8.out.below hb;simp only[Value.slice.injEq]at e;obtain⟨rfl,-,-⟩:=e;rcases h with h0|⟨b,of,rfl,h⟩
  ·omega
  ·obtain⟨u,U,V⟩:=h j hj;exact⟨b,of,u,rfl,U,V⟩
 have k9:∃b of,ao=some ⟨b,of,none⟩/\w.cell? ⟨b,of+i,none⟩=some (.int .i64 (oN o i:Int)):=by
  rcases i5 with h0|⟨b,of,rfl,h⟩
  ·omega
  ·exact⟨b,of,rfl,by rw[h i Oo,(a3 i hi).1]⟩
 have m2:=hS.1;clear k8 i5 d9 a3 a6 e0 hs g8 k5 hS;rw[hlen]at *;clear hlen;obtain⟨bo,fo,rfl,d0⟩:=k9;obtain⟨oi,i6⟩:∃x,x=oN o i:=⟨_,rfl⟩;rw[<-i6]at d0 f4 f8;clear i6;have l0:=run_make_row' (P:=Tryz.prog) 127 4 (.bool false) 1 Tryz.underlying127' (by kernel_rfl) rfl .i64 .i64 k Oo Oo;have f9:=heap_alloc_new w (.cells (madeCells #[.bool false] k) 4);have g2:BAt (w.alloc (.cells (madeCells #[.bool false] k) 4)) w.heap.size k (λ_=>false):=⟨λj hj=>by rw[cell_of_row _ _ _ _ _ _ f9];exact UZ _ _ _ hj,λj _=>by unfold World.frozen?;rw[f9];simp,Ss⟩;have c0:=g2.cell oi f8;have f0:=g2.free oi f8;have g4:=heap_alloc_new w (.cells ((madeCells #[.bool false] k).setIfInBounds oi (.bool true)) 4)
 have i7:BAt (w.alloc (.cells ((madeCells #[.bool false] k).setIfInBounds oi (.bool true)) 4)) w.heap.size k (Bg.upd (λ_=>false) oi):=⟨λj hj=>by
  rw[cell_of_row _ _ _ _ _ _ g4,Array.getElem?_setIfInBounds];have hm:(madeCells #[.bool false] k)[j]?=some (.bool false):=UZ _ _ _ hj;by_cases e:oi=j
  ·subst e
   have d6:oi < (madeCells #[.bool false] k).size:=by
    rcases Nat.lt_or_ge oi (madeCells #[.bool false] k).size with h|h
    ·exact h
    ·rw[Array.getElem?_eq_none h]at hm;cases hm
   rw[if_pos rfl,if_pos d6];simp[Bg.upd]
  ·rw[if_neg e,hm];simp[Bg.upd,Ne.symm e],λj _=>by unfold World.frozen?;rw[g4];simp,Ss⟩
 have e8:Hid (Bk w (w.alloc (.cells ((madeCells #[.bool false] k).setIfInBounds oi (.bool true)) 4)) k (Bg.upd (λ_=>false) oi)):=hid ⟨(bM _ _).alloc (bK _) _,i7⟩;clear g4 i7;clear f9 g2;generalize es.length=n at *
 have i8:(w.alloc (.cells (madeCells #[.bool false] k) 4)).cell? ⟨bo,fo+i,none⟩=some (.int .i64 oi):=by
  rw[<-d0];exact((bM _ _).alloc (bK _) _).cell (p:=⟨bo,fo+i,none⟩) (bL w _ d0)
 clear d0;go_enter Tryz.func111,Tryz.ntmps111
 go_upto_region 3 with fail
 generalize w.alloc (.cells ((madeCells #[.bool false] k).setIfInBounds oi (.bool true)) 4)=W1 at *;clear c0 f0 i8 l0;generalize Bg.upd (λ_=>false) oi=R1 at *;go_wp2_with fail
 go_loopg [10] (Bg.cnt k R1+1) (λgk t wr=>∃(g:Bool) (R:Nat->Bool),t=.bool g/\Hid (gk=Bg.cnt k R+(if g then 1 else 0))/\Hid (Bk w wr k R/\Bg.Inv k es o i R/\(g=false->∀v,R v=true->Bg.E o i v->Bg.Cl es R v)))
 case atStart=>exact⟨true,R1,rfl,hid rfl,hid ⟨e8.out,f4.out,λe=>by cases e⟩⟩
 case round=>
  clear e8 f4;obtain⟨g,R,rfl,HG,HH⟩:=hrel;cases g
  ·have e9:=hid (HB.out R HH.out.2.1 (HH.out.2.2 rfl));have HK:=hid HH.out.1;clear HH HG HB h9 e4 e3 c9 f7 HE;generalize wr=W2 at *;obtain⟨p,hp⟩:∃p:Nat->Bool,p=λv:Nat=>R v&&decide ((i:Int)<=plI (v:Int) o 0):=⟨_,rfl⟩;have HP:Hid (∀v,p v=(R v&&decide ((i:Int)<=plI (v:Int) o 0))):=hid λv=>by rw[hp]
   have l1:Hid (plc p k=zw es o i):=hid (e9.out p λv hv=>by
    obtain⟨q,hq,e1,O⟩:=HQ.out v hv;rw[HP.out,e1,bA,dE,<-g9.out v q hq O];constructor
    ·rintro⟨U,V⟩;exact⟨U,Oo⟩
    ·rintro⟨U,V⟩;exact⟨U,Oo⟩)
   have l2:=HK.out.at'.lt;clear hp e9 g9;go_wp2_with fail
   go_loopw [16,17] (λu t wr=>∃v:Nat,v<=k/\t=.int .i64 v/\wr.ownsRow W2.heap.size 3 1 u (plc p v).length ((plc p v).map (Value.int .i64))/\Bl W2 wr) (λ_ t _=>k - (intOf t).toNat)
   case atStart=>exact⟨0,nZ _,rfl,oM W2 #[] 0 (bK _) Dd rfl,(bM _ _).alloc (bK _) _⟩
   case round=>
    obtain⟨v,hv,rfl,M,a4⟩:=hrel;have m1:=xK p v;have l3:=a4.size;by_cases a8:v < k
    ·have i1:(v:Int) < (k:Int):=Oo;have c1:=(HK.out.at'.below a4).cell v a8;have a2:=hid (HP.out v);cases hR:R v
     ·rw[hR]at c1 a2;have e1:=hid (zy p v a2.out);clear hR a2;go_wp2_with fail
      go_roundw
      case rel=>exact⟨v+1,Oo,Gg,by rw[e1.out];exact M,a4⟩
      case measure=>simp[intOf];omega
     ·rw[hR]at c1 a2;have KP:=hid (g7.out wr (bt HK.out.bel a4) v);obtain⟨q,hq,a9,-⟩:=HQ.out v a8;rw[a9]at KP a2;clear a9 hR;by_cases i9:i<=q
      ·have i2:(i:Int)<=(q:Int):=Oo;have e1:=hid (xi p v (by rw[a2.out,decide_eq_true i2];rfl));clear a2;go_wp2_with fail
       refine KP.out.mono ?_;rintro e w3 ⟨rfl,b0⟩;subst w3
       go_wp2_with (first
        |(at_builtin;refine wpList_append_own _ rfl _ _ 25 rfl W2.heap.size 3 i0 (.int .i64 0) 1 8 Tryz.underlying25 hit j6 k0 k1 rfl Dd _ _ _ rfl (M.alloc _) ⟨wr.heap.size,0,none⟩ 1 1 [.int .i64 v] rfl rfl ?c1 ?c2 ?c3 ?c4 ?c5 ?_)
        |fail)
       case c1=>
        intro j u hj;match j,hj with
        |0,hj=>simp at hj;subst hj;simp[Addr.add]
       case c2=>intro u hu;simp at hu;subst hu;rfl
       case c3=>unfold maxLen;omega
       case c4=>omega
       case c5=>simp;omega
       intro v' w1 b7 b9 _;have hb:=yS l3 M a4 b9
       have g5:w1.ownsRow W2.heap.size 3 1 v' (plc p (v+1)).length ((plc p (v+1)).map (Value.int .i64)):=by
        rw[e1.out];simpa using b7
       clear b7 b9 M;go_wp2;go_roundw
       case rel=>exact⟨v+1,Oo,Gg,g5,hb⟩
       case measure=>simp[intOf];omega
      ·have i2:¬((i:Int)<=(q:Int)):=Oo;have e1:=hid (zy p v (by rw[a2.out,decide_eq_false i2];rfl));clear a2;go_wp2_with fail
       refine KP.out.mono ?_;rintro e w3 ⟨rfl,b0⟩;subst w3;go_wp2_with fail
       go_roundw
       case rel=>exact⟨v+1,Oo,Gg,by rw[e1.out];exact M,a4⟩
       case measure=>simp[intOf];omega
    ·obtain rfl:v=k:=Oo;have i1:¬((v:Int) < (v:Int)):=Oo;rw[l1.out]at M;have HO:=hid (qF M (Nat.le_of_lt l2));have l4:=hid (bt HK.out.bel a4);clear M a4;go_wp2_with fail
     go_ret;exact⟨_,rfl,HO.out,l4.out⟩
  ·generalize wr=W2 at *;go_wp2_with fail
   go_loopw [10,11] (λt1 t2 wr=>∃(v:Nat) (g:Bool) (R':Nat->Bool),v<=k/\t2=.int .i64 v/\t1=.bool g/\Hid (Bk w wr k R'/\Bg.St k es o i R R' g (∀v',v' < v->R v'=true->Bg.E o i v'->Bg.Cl es R v'))) (λ_ t _=>k - (intOf t).toNat)
   case atStart=>exact⟨0,false,R,nZ _,rfl,rfl,hid ⟨HH.out.1,Bg.St.start HH.out.2.1 (λv' h=>Oo)⟩⟩
   case round=>
    clear HH;obtain⟨v,g,R',hv,rfl,rfl,I⟩:=hrel;by_cases a8:v < k
    ·have i1:(v:Int) < (k:Int):=Oo;have c1:=I.out.1.at'.cell v a8;cases hR:R' v
     ·rw[hR]at c1
      have HN:=hid (I.out.2.imp (Q:=∀v',v' < v+1->R v'=true->Bg.E o i v'->Bg.Cl es R v') (λe hP v' h U V=>by
       by_cases O:v'=v
       ·subst O;rw[<-e,hR]at U;cases U
       ·exact hP v' Oo U V))
      have HK:=hid I.out.1;clear I hR;go_wp2_with fail
      go_roundw
      case rel=>exact⟨v+1,_,R',Oo,Gg,rfl,hid ⟨HK.out,HN.out⟩⟩
      case measure=>simp[intOf];omega
     ·rw[hR]at c1;have KP:=hid (g7.out wr I.out.1.bel v);obtain⟨q,hq,a9,j0⟩:=HQ.out v a8;rw[a9]at KP;have d7:=hid (HE.out v q hq j0);clear a9 j0;by_cases i9:i < q
      ·have i2:(i:Int) < (q:Int):=Oo
       have HN:=hid (I.out.2.imp (Q:=∀v',v' < v+1->R v'=true->Bg.E o i v'->Bg.Cl es R v') (λe hP v' h U V=>by
        by_cases O:v'=v
        ·subst O;exact absurd V (d7.out.2 i9)
        ·exact hP v' Oo U V))
       have HK:=hid I.out.1;clear I hR d7;go_wp2_with fail
       refine KP.out.mono ?_;rintro e w3 ⟨rfl,b0⟩;subst w3;go_wp2_with fail
       go_roundw
       case rel=>exact⟨v+1,_,R',Oo,Gg,rfl,hid ⟨HK.out,HN.out⟩⟩
       case measure=>simp[intOf];omega
      ·have i2:¬((i:Int) < (q:Int)):=Oo;have j1:=d7.out.1 Oo;have j2:=hid j1;have j3:=hid hR;clear d7 j1 hR;generalize wr=W3 at *;go_wp2_with fail
       refine KP.out.mono ?_;rintro e w3 ⟨rfl,b0⟩;subst w3;go_wp2_with fail
       clear c1 KP;go_loopw [10,46] (λt1 t2 wr=>∃(j:Nat) (g:Bool) (R':Nat->Bool),j<=n/\t2=.int .i64 j/\t1=.bool g/\Hid (Bk w wr k R'/\R' v=true/\Bg.St k es o i R R' g ((∀v',v' < v->R v'=true->Bg.E o i v'->Bg.Cl es R v')/\∀K,K < j->(v:Int)∈es.getD K []->∀x∈es.getD K [],R x.toNat=true))) (λ_ t _=>n - (intOf t).toNat)
       case atStart=>exact⟨0,g,R',nZ _,rfl,rfl,hid ⟨I.out.1,j3.out,I.out.2.imp (λ_ h=>⟨h,λK h=>Oo⟩)⟩⟩
       case round=>
        clear I j3;obtain⟨j,g,R',hj,rfl,rfl,I⟩:=hrel;by_cases c8:j < n
        ·have i3:(j:Int) < (n:Int):=Oo;obtain⟨b,of,u,ea,c1,hu⟩:=c9.out wr I.out.1.bel j c8;subst ea;have KH:=hid (qU wr u (es.getD j []) (v:Int) hu (f7.out j));have HU:=hid hu;obtain⟨au,cu,rfl,l5⟩:=hu;obtain⟨m,hm⟩:∃m,m=(es.getD j []).length:=⟨_,rfl⟩;have HM:=hid hm
         have l6:Hid (∀W5,Bl w W5->∀p,p < m->∃b of,au=some ⟨b,of,none⟩/\W5.cell? ⟨b,of+p,none⟩=some (.int .i64 ((es.getD j []).getD p 0))):=hid (by
          intro W5 j4 p hp;obtain⟨b5,m3,u5,e5,c5,l7⟩:=c9.out W5 j4 j c8;simp only[Option.some.injEq,Addr.mk.injEq,and_true]at e5;obtain⟨rfl,rfl⟩:=e5;obtain⟨b6,m4,u6,e6,c6,m5⟩:=c9.out w (bM _ _) j c8;simp only[Option.some.injEq,Addr.mk.injEq,and_true]at e6;obtain⟨rfl,rfl⟩:=e6;have d6:=bL w _ c6;have e1:=(j4.cell (p:=⟨b,of+j,none⟩) d6).trans c6;have O:=(I.out.1.bel.cell (p:=⟨b,of+j,none⟩) d6).trans c6;rw[c5]at e1;rw[c1]at O;obtain rfl:=Option.some.inj e1;obtain rfl:=Option.some.inj O;obtain⟨a7,c7,e7,h7⟩:=l7;simp only[Value.slice.injEq]at e7;obtain⟨rfl,-,-⟩:=e7;rcases h7 with h0|⟨b8,l8,rfl,h8⟩
          ·omega
          ·exact⟨b8,l8,rfl,h8 p Oo⟩)
         have m6:m<=1099511627776:=by rw[hm];exact f7.out j
         rw[<-hm]at c1 KH HU;clear hm l5;by_cases a5:(v:Int)∈es.getD j []
         ·rw[decide_eq_true a5]at KH;have l9:=hid a5;clear a5;generalize wr=W4 at *;go_wp2_with fail
          refine KH.out.mono ?_;rintro e w3 ⟨rfl,b0⟩;subst w3;go_wp2_with fail
          clear c1 KH;go_loopw [10,56] (λt1 t2 wr=>∃(p:Nat) (g:Bool) (R':Nat->Bool),p<=m/\t2=.int .i64 p/\t1=.bool g/\Hid (Bk w wr k R'/\R' v=true/\Bg.St k es o i R R' g (((∀v',v' < v->R v'=true->Bg.E o i v'->Bg.Cl es R v')/\∀K,K < j->(v:Int)∈es.getD K []->∀x∈es.getD K [],R x.toNat=true)/\∀p',p' < p->R ((es.getD j []).getD p' 0).toNat=true))) (λ_ t _=>m - (intOf t).toNat)
          case atStart=>exact⟨0,g,R',nZ _,rfl,rfl,hid ⟨I.out.1,I.out.2.1,I.out.2.2.imp (λ_ h=>⟨h,λp' h=>Oo⟩)⟩⟩
          case round=>
           clear I;obtain⟨p,g,R',hp,rfl,rfl,I⟩:=hrel;by_cases j5:p < m
           ·have i4:(p:Int) < (m:Int):=Oo;obtain⟨bu,fu,ea,c4⟩:=l6.out wr I.out.1.bel p j5;subst ea;obtain⟨xn,ex,d8,g6⟩:=e3.out j p c8 (by rw[<-HM.out];exact j5);have HX:=hid ex;rw[ex]at c4;have c5:=I.out.1.at'.cell xn d8;cases hR:R' xn
            ·rw[hR]at c5;have f5:=I.out.1.at'.free xn d8;have HN:=hid (And.intro (I.out.1.set d8) (And.intro (show Bg.upd R' xn v=true by simp[Bg.upd,I.out.2.1]) (I.out.2.2.add (Q:=(((∀v',v' < v->R v'=true->Bg.E o i v'->Bg.Cl es R v')/\∀K,K < j->(v:Int)∈es.getD K []->∀x∈es.getD K [],R x.toNat=true)/\∀p',p' < p+1->R ((es.getD j []).getD p' 0).toNat=true)) I.out.2.1 j2.out (e4.out j c8) l9.out g6 d8 hR)));clear I hR ex g6;go_wp2_with fail
             go_roundw
             case rel=>exact⟨p+1,true,_,Oo,Gg,rfl,HN⟩
             case measure=>simp[intOf];omega
            ·rw[hR]at c5
             have HN:=hid (I.out.2.2.imp (Q:=(((∀v',v' < v->R v'=true->Bg.E o i v'->Bg.Cl es R v')/\∀K,K < j->(v:Int)∈es.getD K []->∀x∈es.getD K [],R x.toNat=true)/\∀p',p' < p+1->R ((es.getD j []).getD p' 0).toNat=true)) (λe h=>⟨h.1,λp' V=>by
              by_cases O:p'=p
              ·subst O;rw[HX.out,<-e];simpa using hR
              ·exact h.2 p' Oo⟩))
             have HK:=hid (And.intro I.out.1 I.out.2.1);clear I hR ex g6;go_wp2_with fail
             go_roundw
             case rel=>exact⟨p+1,_,R',Oo,Gg,rfl,hid ⟨HK.out.1,HK.out.2,HN.out⟩⟩
             case measure=>simp[intOf];omega
           ·obtain rfl:p=m:=Oo;have i4:¬((p:Int) < (p:Int)):=Oo
            have HN:=hid (I.out.2.2.imp (Q:=(∀v',v' < v->R v'=true->Bg.E o i v'->Bg.Cl es R v')/\∀K,K < j+1->(v:Int)∈es.getD K []->∀x∈es.getD K [],R x.toNat=true) (λ_ h=>⟨h.1.1,λK V h3 x hx=>by
             by_cases O:K=j
             ·subst O;obtain⟨p',m0,ep⟩:=zz hx;rw[<-ep];exact h.2 p' (by rw[HM.out];exact m0)
             ·exact h.1.2 K Oo h3 x hx⟩))
            have HK:=hid (And.intro I.out.1 I.out.2.1);clear I;go_wp2_with fail
            go_roundw
            case rel=>exact⟨j+1,_,R',Oo,Gg,rfl,hid ⟨HK.out.1,HK.out.2,HN.out⟩⟩
            case measure=>simp[intOf];omega
         ·rw[decide_eq_false a5]at KH
          have HN:=hid (I.out.2.2.imp (Q:=(∀v',v' < v->R v'=true->Bg.E o i v'->Bg.Cl es R v')/\∀K,K < j+1->(v:Int)∈es.getD K []->∀x∈es.getD K [],R x.toNat=true) (λ_ h=>⟨h.1,λK V h3=>by
           by_cases O:K=j
           ·subst O;exact absurd h3 a5
           ·exact h.2 K Oo h3⟩))
          have HK:=hid (And.intro I.out.1 I.out.2.1);clear I a5 HM HU;go_wp2_with fail
          refine KH.out.mono ?_;rintro e w3 ⟨rfl,b0⟩;subst w3;go_wp2_with fail
          go_roundw
          case rel=>exact⟨j+1,_,R',Oo,Gg,rfl,hid ⟨HK.out.1,HK.out.2,HN.out⟩⟩
          case measure=>simp[intOf];omega
        ·obtain rfl:j=n:=Oo;have i3:¬((j:Int) < (j:Int)):=Oo
         have HN:=hid (I.out.2.2.imp (Q:=∀v',v' < v+1->R v'=true->Bg.E o i v'->Bg.Cl es R v') (λ_ h v' U V h3=>by
          by_cases O:v'=v
          ·subst O;exact h9.out R v' h.2
          ·exact h.1 v' Oo V h3))
         have HK:=hid I.out.1;clear I;go_wp2_with fail
         go_roundw
         case rel=>exact⟨v+1,_,R',Oo,Gg,rfl,hid ⟨HK.out,HN.out⟩⟩
         case measure=>simp[intOf];omega
    ·obtain rfl:v=k:=Oo;have i1:¬((v:Int) < (v:Int)):=Oo
     have HN:Hid (Bg.cnt v R'+(if g then 1 else 0) < Bg.cnt v R+1):=hid (by
      cases g
      ·have:=(I.out.2.same rfl).1;rw[this];simp
      ·have:=I.out.2.grew rfl;simp;omega)
     have HC:=hid (And.intro I.out.1 (And.intro I.out.2.inv (λ(e:g=false) (v':Nat) (U:R' v'=true) (V:Bg.E o i v')=>show Bg.Cl es R' v' from by
      have h3:=I.out.2.same e;rw[h3.1]at U ⊢;exact h3.2 v' (by rw[<-h3.1]at U;exact I.out.2.inv.low v' U) U V)))
     clear I;go_wp2_with fail
     go_roundg (Bg.cnt v R'+(if g then 1 else 0))
     case rel=>exact⟨g,R',rfl,hid rfl,HC⟩
     case measure=>rw[HG.out];exact HN.out
theorem qEV{m:Nat->Bool}{x:Int}(h:x∈plc m 6):0<=x/\x < 6:=by
 unfold plc at h;rw[List.mem_map]at h;obtain⟨j,I,e⟩:=h;rw[List.mem_filter,List.mem_range]at I;simp only[Int.ofNat_eq_natCast]at e;omega
open Go.Maps
def Ap(u v:Value):Prop:=∀g,u.ownBlock=some g->v.ownBlock≠some g
theorem Ap.symm{u:Value}(h:Ap u v):Ap v u:=λg I K=>h g K I
theorem Ap.none_left:Ap (.slice none 0 0) v:=λg h=>by simp[Value.ownBlock]at h
theorem Ap.none_right:Ap v (.slice none 0 0):=λg _ h=>by simp[Value.ownBlock]at h
structure PlS(W:World)(B:Nat)(vB:Value)(vs:List Value)(bs:List (List Int))(vP:Value)(ps:List Int)(vH:Value)(hs:List Int):Prop where
 rl:RL W B vB vs bs
 ownP:W.ownsRow B 3 1 vP ps.length (ps.map (Value.int .i64))
 ownH:W.ownsRow B 3 1 vH hs.length (hs.map (Value.int .i64))
 apP:∀i,i < bs.length->Ap (vs.getD i undef) vP
 apH:∀i,i < bs.length->Ap (vs.getD i undef) vH
 apPH:Ap vP vH
 apB:∀i j,i < j->j < bs.length->Ap (vs.getD i undef) (vs.getD j undef)
section
variable {W W' w3:World} {B:Nat} {vB vP vH v' u:Value} {vs:List Value} {bs:List (List Int)} {ps hs l:List Int} {o:Obj} {x:Int}
theorem PlS.start(W:World)(B:Nat):PlS W B (.slice none 0 0) [] [] (.slice none 0 0) [] (.slice none 0 0) []:=
 ⟨⟨bG _ _ _ _,rfl,λi hi=>by simp at hi⟩,bG _ _ _ _,bG _ _ _ _,(λi hi=>by simp at hi),(λi hi=>by simp at hi),Ap.none_left,λi j _ I=>by simp at I⟩
theorem PlS.moved(h:PlS W B vB vs bs vP ps vH hs)(hb:∀(g:Nat) (cur:Array Value) (e:TypeId),W.heap[g]?=some (Obj.cells cur e (0,0))->(e=3∨e=25)->W'.heap[g]?=W.heap[g]?):PlS W' B vB vs bs vP ps vH hs:=by
 have I:∀{y:Value} {n:Nat} {xs:List Value},W.ownsRow B 3 1 y n xs->W'.ownsRow B 3 1 y n xs:=λO=>qA O λg K=>by
  obtain⟨cur,M⟩:=qO O K;exact hb g cur _ M (Or.inl rfl)
 refine⟨⟨qA h.rl.own λg K=>?_,h.rl.len,λi hi=>I (h.rl.each i hi)⟩,I h.ownP,I h.ownH,h.apP,h.apH,h.apPH,h.apB⟩;obtain⟨cur,M⟩:=qO h.rl.own K;exact hb g cur _ M (Or.inr rfl)
theorem XH{g:Nat}(h:W.heap[g]?=some o):g < W.heap.size:=by
 rcases Nat.lt_or_ge g W.heap.size with I|I
 ·exact I
 ·rw[Array.getElem?_eq_none I]at h;cases h
theorem PlS.below(h:PlS W B vB vs bs vP ps vH hs)(hb:Bl W W'):PlS W' B vB vs bs vP ps vH hs:=h.moved λg _ _ I _=>hb.block g (XH I)
theorem PlS.base{B':Nat}(h:PlS W B vB vs bs vP ps vH hs)(hB:B'<=B):PlS W B' vB vs bs vP ps vH hs:=⟨h.rl.base hB,qF h.ownP hB,qF h.ownH hB,h.apP,h.apH,h.apPH,h.apB⟩
theorem PlS.store(h:PlS W B vB vs bs vP ps vH hs)(V:∃cur,W.heap[p]?=some (.cells cur e (0,0)))(O:e≠3/\e≠25)(y:Value):PlS (W.setCell ⟨p,off,none⟩ y) B vB vs bs vP ps vH hs:=
 h.moved λg cur e' I K=>bE _ _ _ _ (by
  rintro rfl;obtain⟨U,M⟩:=V;rw[M]at I;simp only[Option.some.injEq,Obj.cells.injEq]at I;obtain⟨-,rfl,-⟩:=I;rcases K with rfl|rfl
  ·exact O.1 rfl
  ·exact O.2 rfl)
theorem PlS.growP(h:PlS W B vB vs bs vP ps vH hs)(K:w3.ownsRow B 3 1 v' (ps.length+1) (ps.map (Value.int .i64)++[.int .i64 x]))(hg:(W.alloc o).grownBy w3 vP.ownBlock)(U:∀g,v'.ownBlock=some g->vP.ownBlock=some g∨W.heap.size<=g):PlS w3 B vB vs bs v' (ps++[x]) vH hs:=by
 have keep:∀{y:Value} {n:Nat} {xs:List Value},W.ownsRow B 3 1 y n xs->Ap y vP->w3.ownsRow B 3 1 y n xs:=λO V=>qA O λg I=>qV hg (O.lt g I).2 (λe=>V g I e.symm)
 have ap:∀{y:Value} {n:Nat} {xs:List Value},W.ownsRow B 3 1 y n xs->Ap y vP->Ap y v':=λO V g I e=>by
  rcases U g e with h1|h1
  ·exact V g I h1
  ·have:=(O.lt g I).2;omega
 refine⟨⟨qA h.rl.own λg M=>qV hg (h.rl.own.lt g M).2 (own_ne h.ownP (qO h.rl.own M) Dd),h.rl.len,λi hi=>keep (h.rl.each i hi) (h.apP i hi)⟩,?_,keep h.ownH h.apPH.symm,λi hi=>ap (h.rl.each i hi) (h.apP i hi),h.apH,(ap h.ownH h.apPH.symm).symm,h.apB⟩;rw[lA,mA];exact K
theorem PlS.growH(h:PlS W B vB vs bs vP ps vH hs)(K:w3.ownsRow B 3 1 v' (hs.length+1) (hs.map (Value.int .i64)++[.int .i64 x]))(hg:(W.alloc o).grownBy w3 vH.ownBlock)(U:∀g,v'.ownBlock=some g->vH.ownBlock=some g∨W.heap.size<=g):PlS w3 B vB vs bs vP ps v' (hs++[x]):=by
 have keep:∀{y:Value} {n:Nat} {xs:List Value},W.ownsRow B 3 1 y n xs->Ap y vH->w3.ownsRow B 3 1 y n xs:=λO V=>qA O λg I=>qV hg (O.lt g I).2 (λe=>V g I e.symm)
 have ap:∀{y:Value} {n:Nat} {xs:List Value},W.ownsRow B 3 1 y n xs->Ap y vH->Ap y v':=λO V g I e=>by
  rcases U g e with h1|h1
  ·exact V g I h1
  ·have:=(O.lt g I).2;omega
 refine⟨⟨qA h.rl.own λg M=>qV hg (h.rl.own.lt g M).2 (own_ne h.ownH (qO h.rl.own M) Dd),h.rl.len,λi hi=>keep (h.rl.each i hi) (h.apH i hi)⟩,keep h.ownP h.apPH,?_,h.apP,λi hi=>ap (h.rl.each i hi) (h.apH i hi),ap h.ownP h.apPH,h.apB⟩;rw[lA,mA];exact K
theorem PlS.growB(h:PlS W B vB vs bs vP ps vH hs)(V:W.ownsRow B 3 1 u l.length (l.map (Value.int .i64)))(aP:Ap u vP)(aH:Ap u vH)(aB:∀i,i < bs.length->Ap (vs.getD i undef) u)
 (I:w3.ownsRow B 25 1 v' (bs.length+1) (vs++[u])) (U:(W.alloc o).grownBy w3 vB.ownBlock):PlS w3 B v' (vs++[u]) (bs++[l]) vP ps vH hs:=by
 have keep:∀{y:Value} {n:Nat} {xs:List Value},W.ownsRow B 3 1 y n xs->w3.ownsRow B 3 1 y n xs:=λM=>qA M λg K=>qV U (M.lt g K).2 (own_ne h.rl.own (qO M K) Dd);have hl:=h.rl.len
 have old:∀i,i < bs.length->(vs++[u]).getD i undef=vs.getD i undef:=λi hi=>by
  rw[gD,aL Oo,<-gD]
 have new:(vs++[u]).getD bs.length undef=u:=by
  rw[gD,bX Oo,show bs.length - vs.length=0 by omega];rfl
 refine⟨h.rl.step V I U,keep h.ownP,keep h.ownH,λi hi=>?_,λi hi=>?_,h.apPH,λi j O hj=>?_⟩
 ·rw[lA,lS]at hi;by_cases e:i < bs.length
  ·rw[old i e];exact h.apP i e
  ·rw[show i=bs.length by omega,new];exact aP
 ·rw[lA,lS]at hi;by_cases e:i < bs.length
  ·rw[old i e];exact h.apH i e
  ·rw[show i=bs.length by omega,new];exact aH
 ·rw[lA,lS]at hj;rw[old i Oo];by_cases e:j < bs.length
  ·rw[old j e];exact h.apB i j O e
  ·rw[show j=bs.length by omega,new];exact aB i Oo
theorem qCL{I:Nat}{ys:List Value}(K:W'.ownsRow W.heap.size e 1 u n xs)(M:W.ownsRow B e 1 v' I ys):Ap u v':=λg O U=>by
 have a1:=(K.lt g O).1;have V:=(M.lt g U).2;omega
end
structure PBx(W:World)(p:Nat)(vB vP vH vW:Value)(x y:Int):Prop where
 c0:W.cell? ⟨p,0,none⟩=some vB
 c1:W.cell? ⟨p,1,none⟩=some vP
 c2:W.cell? ⟨p,2,none⟩=some vH
 c3:W.cell? ⟨p,3,none⟩=some vW
 c4:W.cell? ⟨p,4,none⟩=some (.int .i64 x)
 c5:W.cell? ⟨p,5,none⟩=some (.int .i64 y)
 free:∀j,W.frozen? ⟨p,j,none⟩=false
 typ:∃cur,W.heap[p]?=some (.cells cur 30 (0,0))
section
variable {W W' w3 w:World} {p:Nat} {vB vP vH vW v' u:Value} {x y:Int}
theorem PBx.move(h:PBx W p vB vP vH vW x y)(hb:W'.heap[p]?=W.heap[p]?):PBx W' p vB vP vH vW x y:=by
 have I:∀j,W'.cell? ⟨p,j,none⟩=W.cell? ⟨p,j,none⟩:=λj=>bF (w:=W) (a:=⟨p,j,none⟩) hb;exact⟨(I 0).trans h.c0,(I 1).trans h.c1,(I 2).trans h.c2,(I 3).trans h.c3,(I 4).trans h.c4,(I 5).trans h.c5,λj=>(World.frozen?_of_block (w:=W) (a:=⟨p,j,none⟩) hb).trans (h.free j),by obtain⟨cur,K⟩:=h.typ;exact⟨cur,hb.trans K⟩⟩
theorem PBx.lt(h:PBx W p vB vP vH vW x y):p < W.heap.size:=by obtain⟨cur,I⟩:=h.typ;exact XH I
theorem PBx.below(h:PBx W p vB vP vH vW x y)(hb:Bl W W'):PBx W' p vB vP vH vW x y:=h.move (hb.block p h.lt)
theorem PBx.other(h:PBx W p vB vP vH vW x y)(hq:p≠q)(z:Value):PBx (W.setCell ⟨q,off,none⟩ z) p vB vP vH vW x y:=h.move (bE _ _ _ _ hq)
theorem PBx.grown(h:PBx W p vB vP vH vW x y){B:Nat}(I:W.ownsRow B e s u n xs)(K:e≠30)(M:(W.alloc o).grownBy w3 u.ownBlock):PBx w3 p vB vP vH vW x y:=
 h.move (qV M h.lt (own_ne I h.typ K))
theorem qa{a b:Nat}{z:Value}(h:a≠b):(W.setCell ⟨p,b,none⟩ z).cell? ⟨p,a,none⟩=W.cell? ⟨p,a,none⟩:=bD _ _ _ _ (by intro e;simp only[Addr.mk.injEq]at e;omega)
theorem PBx.set0(h:PBx W p vB vP vH vW x y)(z:Value):PBx (W.setCell ⟨p,0,none⟩ z) p z vP vH vW x y:=
 ⟨bI _ _ _ h.c0,(qa Dd).trans h.c1,(qa Dd).trans h.c2,(qa Dd).trans h.c3,(qa Dd).trans h.c4,(qa Dd).trans h.c5,λj=>by rw[fS];exact h.free j,qD h.typ⟩
theorem PBx.set1(h:PBx W p vB vP vH vW x y)(z:Value):PBx (W.setCell ⟨p,1,none⟩ z) p vB z vH vW x y:=
 ⟨(qa Dd).trans h.c0,bI _ _ _ h.c1,(qa Dd).trans h.c2,(qa Dd).trans h.c3,(qa Dd).trans h.c4,(qa Dd).trans h.c5,λj=>by rw[fS];exact h.free j,qD h.typ⟩
theorem PBx.set2(h:PBx W p vB vP vH vW x y)(z:Value):PBx (W.setCell ⟨p,2,none⟩ z) p vB vP z vW x y:=
 ⟨(qa Dd).trans h.c0,(qa Dd).trans h.c1,bI _ _ _ h.c2,(qa Dd).trans h.c3,(qa Dd).trans h.c4,(qa Dd).trans h.c5,λj=>by rw[fS];exact h.free j,qD h.typ⟩
theorem PBx.set3(h:PBx W p vB vP vH vW x y)(z:Value):PBx (W.setCell ⟨p,3,none⟩ z) p vB vP vH z x y:=
 ⟨(qa Dd).trans h.c0,(qa Dd).trans h.c1,(qa Dd).trans h.c2,bI _ _ _ h.c3,(qa Dd).trans h.c4,(qa Dd).trans h.c5,λj=>by rw[fS];exact h.free j,qD h.typ⟩
end
structure Sh(w W:World)(vB:Value)(vs:List Value)(bs:List (List Int))(vP:Value)(ps:List Int)(vH:Value)(hs:List Int):Prop where
 bel:Bl w W
 res:PBx W w.heap.size (.slice none 0 0) (.slice none 0 0) (.slice none 0 0) (.slice none 0 0) 0 0
 box:PBx W (w.heap.size+1) vB vP vH (.slice none 0 0) 0 0
 pls:PlS W w.heap.size vB vs bs vP ps vH hs
section
variable {W W' w3 w:World} {vB vP vH v' u:Value} {vs:List Value} {bs:List (List Int)} {ps hs l:List Int} {o:Obj} {x:Int}
theorem Sh.below(h:Sh w W vB vs bs vP ps vH hs)(hb:Bl W W'):Sh w W' vB vs bs vP ps vH hs:=⟨bt h.bel hb,h.res.below hb,h.box.below hb,h.pls.below hb⟩
theorem Sh.start(w:World):Sh w ((w.alloc (.cells #[.slice none 0 0,.slice none 0 0,.slice none 0 0,.slice none 0 0,.int .i64 0,.int .i64 0] 30)).alloc (.cells #[.slice none 0 0,.slice none 0 0,.slice none 0 0,.slice none 0 0,.int .i64 0,.int .i64 0] 30)) (.slice none 0 0) [] [] (.slice none 0 0) [] (.slice none 0 0) []:=by
 have I:∀W:World,PBx (W.alloc (.cells #[.slice none 0 0,.slice none 0 0,.slice none 0 0,.slice none 0 0,.int .i64 0,.int .i64 0] 30)) W.heap.size (.slice none 0 0) (.slice none 0 0) (.slice none 0 0) (.slice none 0 0) 0 0:=λW=>by
  have hb:=heap_alloc_new W (.cells #[.slice none 0 0,.slice none 0 0,.slice none 0 0,.slice none 0 0,.int .i64 0,.int .i64 0] 30);refine⟨?_,?_,?_,?_,?_,?_,λj=>by unfold World.frozen?;rw[hb];simp,⟨_,hb⟩⟩;all_goals rw[cell_of_row _ _ _ _ _ _ hb];rfl
 refine⟨((bM _ _).alloc (bK _) _).alloc Ss _,(I w).below ((bM _ _).alloc (bK _) _),?_,PlS.start _ _⟩;have:=I (w.alloc (.cells #[.slice none 0 0,.slice none 0 0,.slice none 0 0,.slice none 0 0,.int .i64 0,.int .i64 0] 30));rw[World.size_alloc]at this;exact this
theorem Sh.step0(h:Sh w W vB vs bs vP ps vH hs)(hr:W.ownsRow w.heap.size e s u n xs)(K:e≠30)(I:(W.alloc o).grownBy w3 u.ownBlock):Bl w w3/\PBx w3 w.heap.size (.slice none 0 0) (.slice none 0 0) (.slice none 0 0) (.slice none 0 0) 0 0/\PBx w3 (w.heap.size+1) vB vP vH (.slice none 0 0) 0 0:=
 ⟨(h.bel.alloc h.bel.size o).grown I (by simp;have:=h.bel.size;omega) (λk M=>(hr.lt k M).1),h.res.grown hr K I,h.box.grown hr K I⟩
theorem Sh.pushB(h:Sh w W vB vs bs vP ps vH hs)(O:W.ownsRow w.heap.size 3 1 u l.length (l.map (Value.int .i64)))(U:Ap u vP)(V:Ap u vH)(aB:∀i,i < bs.length->Ap (vs.getD i undef) u)
 (I:w3.ownsRow w.heap.size 25 1 v' (bs.length+1) (vs++[u])) (K:(W.alloc o).grownBy w3 vB.ownBlock):Sh w (w3.setCell ⟨w.heap.size+1,0,none⟩ v') v' (vs++[u]) (bs++[l]) vP ps vH hs:=by
 obtain⟨h1,h2,M⟩:=h.step0 h.pls.rl.own Dd K;exact⟨h1.setCell (Nat.le_succ _) _,h2.other Oo _,M.set0 _,(h.pls.growB O U V aB I K).store M.typ ⟨Dd,Dd⟩ _⟩
theorem Sh.pushP(h:Sh w W vB vs bs vP ps vH hs)(I:w3.ownsRow w.heap.size 3 1 v' (ps.length+1) (ps.map (Value.int .i64)++[.int .i64 x]))(M:(W.alloc o).grownBy w3 vP.ownBlock)(K:∀g,v'.ownBlock=some g->vP.ownBlock=some g∨W.heap.size<=g):Sh w (w3.setCell ⟨w.heap.size+1,1,none⟩ v') vB vs bs v' (ps++[x]) vH hs:=by
 obtain⟨U,V,O⟩:=h.step0 h.pls.ownP Dd M;exact⟨U.setCell (Nat.le_succ _) _,V.other Oo _,O.set1 _,(h.pls.growP I M K).store O.typ ⟨Dd,Dd⟩ _⟩
theorem Sh.pushH(h:Sh w W vB vs bs vP ps vH hs)(I:w3.ownsRow w.heap.size 3 1 v' (hs.length+1) (hs.map (Value.int .i64)++[.int .i64 x]))(M:(W.alloc o).grownBy w3 vH.ownBlock)(K:∀g,v'.ownBlock=some g->vH.ownBlock=some g∨W.heap.size<=g):Sh w (w3.setCell ⟨w.heap.size+1,2,none⟩ v') vB vs bs vP ps v' (hs++[x]):=by
 obtain⟨U,V,O⟩:=h.step0 h.pls.ownH Dd M;exact⟨U.setCell (Nat.le_succ _) _,V.other Oo _,O.set2 _,(h.pls.growH I M K).store O.typ ⟨Dd,Dd⟩ _⟩
end
def zk(es:List (List Int))(o:List Int)(i:Nat):List (List Int):=(List.range i).map (zw es o)
def xO(es:List (List Int))(o:List Int)(i:Nat):List Int:=(List.range i).map λj=>qu (zw es o j) o (j+1)
def zL(es:List (List Int))(o:List Int)(j:Nat):List Int:=(List.range j).map λq=>qu (es.getD q []) o 0
theorem qA3(es:List (List Int))(o:List Int)(i:Nat):zk es o (i+1)=zk es o i++[zw es o i]:=by unfold zk;rw[List.range_succ,mA];rfl
theorem qA4(es:List (List Int))(o:List Int)(i:Nat):xO es o (i+1)=xO es o i++[qu (zw es o i) o (i+1)]:=by unfold xO;rw[List.range_succ,mA];rfl
theorem J6(es:List (List Int))(o:List Int)(i:Nat):zL es o (i+1)=zL es o i++[qu (es.getD i []) o 0]:=by unfold zL;rw[List.range_succ,mA];rfl
theorem xy(es:List (List Int))(o:List Int)(i:Nat):(zk es o i).length=i:=by simp[zk]
theorem Yq(es:List (List Int))(o:List Int)(i:Nat):(xO es o i).length=i:=by simp[xO]
theorem qA5(es:List (List Int))(o:List Int)(i:Nat):(zL es o i).length=i:=by simp[zL]
structure Ord(k:Nat)(es:List (List Int))(o:List Int):Prop where
 k6:k<=6
 len:o.length=k
 low:∀e∈es,∀x∈e,0<=x/\x < (k:Int)
 at':∀j,j < k->o.getD j 0=(oN o j:Int)/\oN o j < k
 nd:∀a b,a < b->b < k->oN o a≠oN o b
 sur:∀v,v < k->∃q,q < k/\oN o q=v
 self:∀v,v < k->zi es v v=true
theorem VL(w:World)(ve vo:Value)(es:List (List Int))(o:List Int)(k:Nat)(he:ISS w ve es)(hS:zS es)(ho:IS w vo o)(hO:Ord k es o)(h5:es.length<=7):
 Cl 74 #[.int .i64 k,ve,vo] w λe w'=>∃vB vs vP vH,e=.returned (.agg #[vB,vP,vH,.slice none 0 0,.int .i64 0,.int .i64 0])/\
  PlS w' w.heap.size vB vs (zk es o k) vP (xO es o k) vH (zL es o es.length)/\Bl w w':=by
 obtain⟨i0,hit,e5,e6,e7⟩:=info_parts Tryz.infoInt;obtain⟨iS,hj,h6,h7,h8⟩:=info_parts Tryz.infoIS;have k1:=hO.k6
 have d6:Hid (∀W i,Bl w W->i < k->Cl 111 #[.int .i64 k,ve,vo,.int .i64 i] W λe w'=>∃v,e=.returned v/\w'.ownsRow W.heap.size 3 1 v (zw es o i).length ((zw es o i).map (Value.int .i64))/\Bl W w'):=hid λW i hW hi=>
  Jw W ve vo es o k i (he.below hW) hS (ho.below hW) hO.k6 hO.len hi hO.low hO.at' hO.nd hO.sur (hO.self _ (hO.at' i hi).2)
 have k4:=hid ho;have e8:=hid he;have hlen:=hO.len;have h9:=hid hS.2;obtain⟨ae,ce,rfl,i5⟩:=he;obtain⟨ao,co,rfl,e9⟩:=ho
 have f7:Hid (∀W,Bl w W->∀j,j < k->∃b of,ao=some ⟨b,of,none⟩/\W.cell? ⟨b,of+j,none⟩=some (.int .i64 (o.getD j 0))):=hid λW hW j hj=>by
  rcases e9 with h0|⟨b,of,rfl,h⟩
  ·omega
  ·exact⟨b,of,rfl,(hW.cell (bL w _ (h j Oo))).trans (h j Oo)⟩
 have f8:Hid (∀s t,t < k->o.getD t 0∈s->qu s o t=(t:Int)):=hid λs t ht h=>qAk Oo h;have f9:Hid (∀s t,t < k->¬o.getD t 0∈s->qu s o t=qu s o (t+1)):=hid λs t ht h=>Jy Oo h;have g2:Hid (∀s,qu s o k=-1):=hid λs=>Z4 s o Oo;have g5:=hid (Sh.start w);clear i5 e9 hO hS;rw[hlen]at *;clear hlen;go_enter Tryz.func74,Tryz.ntmps74
 go_upto_region 2 with fail
 generalize (w.alloc (.cells #[.slice none 0 0,.slice none 0 0,.slice none 0 0,.slice none 0 0,.int .i64 0,.int .i64 0] 30)).alloc (.cells #[.slice none 0 0,.slice none 0 0,.slice none 0 0,.slice none 0 0,.int .i64 0,.int .i64 0] 30)=W0 at *;go_wp2_with fail
 go_loopw [19] (λt wr=>∃i:Nat,i<=k/\t=.int .i64 i/\Hid (∃vB vs vP,Sh w wr vB vs (zk es o i) vP (xO es o i) (.slice none 0 0) [])) (λt _=>k - (intOf t).toNat)
 case atStart=>exact⟨0,nZ _,rfl,hid ⟨_,_,_,g5.out⟩⟩
 case round=>
  clear g5;obtain⟨i,k5,rfl,HT⟩:=hrel;by_cases hi:i < k
  ·have i1:(i:Int) < (k:Int):=Oo;obtain⟨vB,vs,vP,a5⟩:=HT.out;have KB:=hid (d6.out wr i a5.bel hi);have I:=hid a5;clear HT a5;go_wp2_with fail
   refine KB.out.mono ?_;rintro e w2 ⟨u,rfl,hu,g6⟩;have HU:=hid hu;have M:=hid (I.out.below g6);have d7:Hid (Ap u vP):=hid (qCL hu I.out.pls.ownP);have d8:Hid (∀q,q < (zk es o i).length->Ap (vs.getD q undef) u):=hid λq hq=>(qCL hu (I.out.pls.rl.each q hq)).symm;have g7:=hid (qF hu I.out.bel.size);clear KB g6 I;obtain⟨au,cu,rfl⟩:=kP hu;clear hu;have i6:=hid (qA3 es o i);have i7:=hid (qA4 es o i);have d9:=xy es o i;have e0:=Yq es o i;have KH:Hid (∀x:Int,Cl 16 #[.slice au (zw es o i).length cu,.int .i64 x] w2 λe w'=>e=.returned (.bool (decide (x∈zw es o i)))/\w'=w2):=hid λx=>qU w2 _ (zw es o i) x (qK HU.out) (by have:=xK (λb=>Elim.gAt (zi es) (oN o) i (oN o i) b) 6;show(plc _ 6).length<=_;omega);have b7:=hid (f7.out w2 M.out.bel);clear HU;generalize zw es o i=bag at *;go_wp2_with fail
   go_loop [10,11] (λt1 t2=>∃(j:Int) (t:Nat),j=(t:Int) - 1/\i+1<=t/\t<=k/\t2=.int .i64 j/\t1=.int .i64 (qu bag o t)) (λ_ t=>(intOf t+1).toNat)
   case atStart=>exact⟨_,k,rfl,Oo,bK _,rfl,by rw[g2.out]⟩
   case round=>
    obtain⟨j,t,b9,k0,i8,rfl,rfl⟩:=hrel;by_cases i9:i+1 < t
    ·obtain⟨t',rfl⟩:∃t',t=t'+1:=⟨t - 1,Oo⟩;obtain rfl:j=(t':Int):=Oo;clear b9;have i2:(i:Int) < (t':Int):=Oo;have i3:(t':Int) < (k:Int):=Oo;obtain⟨b,of,ea,c1⟩:=b7.out t' Oo;subst ea;have a6:=hid (KH.out (o.getD t' 0));have a2:=f8.out bag t' Oo;have a3:=f9.out bag t' Oo;by_cases U:o.getD t' 0∈bag
     ·rw[decide_eq_true U]at a6;have e1:=hid (a2 U);clear a2 a3 U;generalize o.getD t' 0=x at *;generalize qu bag o (t'+1)=f0 at *;go_wp2_with fail
      refine a6.out.mono ?_;rintro e w3 ⟨rfl,c9⟩;subst w3;go_wp2_with fail
      go_round
      case rel=>exact⟨_,t',Gg,Oo,Oo,rfl,by rw[e1.out]⟩
      case measure=>simp[intOf] <;> omega
     ·rw[decide_eq_false U]at a6;have e1:=hid (a3 U);clear a2 a3 U;generalize o.getD t' 0=x at *;generalize qu bag o (t'+1)=f0 at *;go_wp2_with fail
      refine a6.out.mono ?_;rintro e w3 ⟨rfl,c9⟩;subst w3;go_wp2_with fail
      go_round
      case rel=>exact⟨_,t',Gg,Oo,Oo,rfl,by rw[e1.out]⟩
      case measure=>simp[intOf] <;> omega
    ·obtain rfl:t=i+1:=Oo;obtain rfl:j=(i:Int):=Oo;have i2:¬((i:Int) < (i:Int)):=Oo;clear b9 KH b7;generalize qu bag o (i+1)=par at *;have c0:=M.out.box.c0;have k7:=M.out.bel.size
     go_upto_region 13 with (first
      |(at_builtin;refine wpList_append_lies _ rfl _ _ 24 rfl w.heap.size 25 iS (.slice none 0 0) 1 24 Tryz.underlying24 hj h6 h7 h8 rfl Dd vB _ vs rfl (M.out.pls.rl.own.alloc _) ⟨w2.heap.size,0,none⟩ 1 1 [.slice au bag.length cu] rfl rfl (qH _ _ _) (λu hu=>by simp at hu;subst hu;rfl) Dd (by rw[d9];unfold maxLen;omega) (by rw[d9];omega) (by simp;omega) (w2.heap.size+1) Ss ?_;intro g3 cp3 w3 c7 V g8 g9;have j0:=(M.out.step0 M.out.pls.rl.own Dd V).2.2.c0;have j1:=(M.out.step0 M.out.pls.rl.own Dd V).2.2.free 0)
      |fail)
     have O:=hid (M.out.pushB g7.out d7.out Ap.none_right d8.out c7 V);rw[d9,<-i6.out]at O;clear c0 j0 j1 c7 V g8 g9 M g7 d7 d8;generalize w3.setCell ⟨w.heap.size+1,0,none⟩ (.slice (some ⟨g3,0,none⟩) (i+1) cp3)=W3 at *;have c1:=O.out.box.c1;have c9:=O.out.bel.size
     go_wp2_with (first
      |(at_builtin;refine wpList_append_lies _ rfl _ _ 25 rfl w.heap.size 3 i0 (.int .i64 0) 1 8 Tryz.underlying25 hit e5 e6 e7 rfl Dd vP _ ((xO es o i).map (Value.int .i64)) rfl (O.out.pls.ownP.alloc _) ⟨W3.heap.size,0,none⟩ 1 1 [.int .i64 par] rfl rfl (qH _ _ _) (λu hu=>by simp at hu;subst hu;rfl) Dd (by rw[e0];unfold maxLen;omega) (by rw[e0];omega) (by simp;omega) (W3.heap.size+1) Ss ?_;intro g4 j2 w4 a4 K a7 c8;have e2:=(O.out.step0 O.out.pls.ownP Dd K).2.2.c1;have e3:=(O.out.step0 O.out.pls.ownP Dd K).2.2.free 1)
      |fail)
     have a8:=hid (O.out.pushP a4 K (λg hg=>by
      simp only[Value.ownBlock,Option.some.injEq]at hg;subst hg;rcases a7 with h|h
      ·exact Or.inl h
      ·exact Or.inr Oo))
     rw[e0,<-i7.out]at a8;clear c1 e2 e3 a4 K a7 c8 O;go_roundw
     case rel=>exact⟨i+1,Oo,Gg,hid ⟨_,_,_,a8.out⟩⟩
     case measure=>simp[intOf];omega
  ·obtain rfl:i=k:=Oo;have i1:¬((i:Int) < (i:Int)):=Oo;obtain⟨vB,vs,vP,a5⟩:=HT.out;have I:=hid a5
   have h3:Hid (∀W,Bl w W->∀j,j < es.length->∃b of u,ae=some ⟨b,of,none⟩/\W.cell? ⟨b,of+j,none⟩=some u/\IS W u (es.getD j [])):=hid λW hb j hj=>by
    obtain⟨a',c',e,h⟩:=e8.out.below hb;simp only[Value.slice.injEq]at e;obtain⟨rfl,-,-⟩:=e;rcases h with h0|⟨b,of,rfl,h⟩
    ·omega
    ·obtain⟨u,h1,h2⟩:=h j hj;exact⟨b,of,u,rfl,h1,h2⟩
   have h4:Hid (zL es o 0=[]):=hid rfl;have j3:Hid (∀j,zL es o (j+1)=zL es o j++[qu (es.getD j []) o 0]):=hid λj=>J6 es o j;have j4:Hid (∀j,(zL es o j).length=j):=hid λj=>qA5 es o j;clear HT a5 d6 e8;obtain⟨n,hn⟩:∃n,n=es.length:=⟨_,rfl⟩;have j5:=hid hn;rw[<-hn]at h3 h5 ⊢;clear hn;generalize wr=W5 at *;go_wp2_with fail
   go_loopw [57] (λt wr=>∃j:Nat,j<=n/\t=.int .i64 j/\Hid (∃vH,Sh w wr vB vs (zk es o i) vP (xO es o i) vH (zL es o j))) (λt _=>n - (intOf t).toNat)
   case atStart=>exact⟨0,nZ _,rfl,hid ⟨_,by rw[h4.out];exact I.out⟩⟩
   case round=>
    clear I h4;obtain⟨q,hq,rfl,HT⟩:=hrel;obtain⟨vH,a5⟩:=HT.out;have I:=hid a5;clear HT a5;by_cases j6:q < n
    ·have i2:(q:Int) < (n:Int):=Oo;obtain⟨be,fe,u,ea,c1,hu⟩:=h3.out wr I.out.bel q j6;subst ea;have KH:Hid (∀x:Int,Cl 16 #[u,.int .i64 x] wr λe w'=>e=.returned (.bool (decide (x∈es.getD q [])))/\w'=wr):=hid λx=>qU wr u (es.getD q []) x hu (h9.out q);obtain⟨au,cu,rfl,-⟩:=hu;have b7:=hid (f7.out wr I.out.bel);have HN:=hid (j3.out q);have e4:=j4.out q;generalize (es.getD q []).length=m at *;generalize es.getD q []=ed at *;generalize wr=W6 at *;go_wp2_with fail
     clear c1;go_loop [14,15] (λt1 t2=>∃(j:Int) (t:Nat),j=(t:Int) - 1/\t<=i/\t2=.int .i64 j/\t1=.int .i64 (qu ed o t)) (λ_ t=>(intOf t+1).toNat)
     case atStart=>exact⟨_,i,rfl,bK _,rfl,by rw[g2.out]⟩
     case round=>
      obtain⟨j,t,b9,i8,rfl,rfl⟩:=hrel;by_cases i9:0 < t
      ·obtain⟨t',rfl⟩:∃t',t=t'+1:=⟨t - 1,Oo⟩;obtain rfl:j=(t':Int):=Oo;clear b9;have i3:(0:Int)<=(t':Int):=Oo;have i4:(t':Int) < (i:Int):=Oo;obtain⟨b,of,ea,c1⟩:=b7.out t' Oo;subst ea;have a6:=hid (KH.out (o.getD t' 0));have a2:=f8.out ed t' Oo;have a3:=f9.out ed t' Oo;by_cases U:o.getD t' 0∈ed
       ·rw[decide_eq_true U]at a6;have e1:=hid (a2 U);clear a2 a3 U;generalize o.getD t' 0=x at *;generalize qu ed o (t'+1)=f0 at *;go_wp2_with fail
        refine a6.out.mono ?_;rintro e w3 ⟨rfl,c9⟩;subst w3;go_wp2_with fail
        go_round
        case rel=>exact⟨_,t',Gg,Oo,rfl,by rw[e1.out]⟩
        case measure=>simp[intOf] <;> omega
       ·rw[decide_eq_false U]at a6;have e1:=hid (a3 U);clear a2 a3 U;generalize o.getD t' 0=x at *;generalize qu ed o (t'+1)=f0 at *;go_wp2_with fail
        refine a6.out.mono ?_;rintro e w3 ⟨rfl,c9⟩;subst w3;go_wp2_with fail
        go_round
        case rel=>exact⟨_,t',Gg,Oo,rfl,by rw[e1.out]⟩
        case measure=>simp[intOf] <;> omega
      ·obtain rfl:t=0:=Oo;obtain rfl:j=(-1:Int):=Oo;clear b9 KH b7;generalize qu ed o 0=hom at *;have c2:=I.out.box.c2;have k8:=I.out.bel.size
       go_wp2_with (first
        |(at_builtin;refine wpList_append_lies _ rfl _ _ 25 rfl w.heap.size 3 i0 (.int .i64 0) 1 8 Tryz.underlying25 hit e5 e6 e7 rfl Dd vH _ ((zL es o q).map (Value.int .i64)) rfl (I.out.pls.ownH.alloc _) ⟨W6.heap.size,0,none⟩ 1 1 [.int .i64 hom] rfl rfl (qH _ _ _) (λu hu=>by simp at hu;subst hu;rfl) Dd (by rw[e4];unfold maxLen;omega) (by rw[e4];omega) (by simp;omega) (W6.heap.size+1) Ss ?_;intro g4 j2 w4 a4 K a7 c8;have e2:=(I.out.step0 I.out.pls.ownH Dd K).2.2.c2;have e3:=(I.out.step0 I.out.pls.ownH Dd K).2.2.free 2)
        |fail)
       have a8:=hid (I.out.pushH a4 K (λg hg=>by
        simp only[Value.ownBlock,Option.some.injEq]at hg;subst hg;rcases a7 with h|h
        ·exact Or.inl h
        ·exact Or.inr Oo))
       rw[e4,<-HN.out]at a8;clear c2 e2 e3 a4 K a7 c8 I;go_roundw
       case rel=>exact⟨q+1,Oo,Gg,hid ⟨_,a8.out⟩⟩
       case measure=>simp[intOf];omega
    ·obtain rfl:q=n:=Oo;have i2:¬((q:Int) < (q:Int)):=Oo;have c0:=I.out.box.c0;have c1:=I.out.box.c1;have c2:=I.out.box.c2;have c3:=I.out.box.c3;have c4:=I.out.box.c4;have c5:=I.out.box.c5;have d0:=I.out.res.c0;have d1:=I.out.res.c1;have d2:=I.out.res.c2;have d3:=I.out.res.c3;have d4:=I.out.res.c4;have d5:=I.out.res.c5;have f0:=I.out.res.free 0;have f1:=I.out.res.free 1;have f2:=I.out.res.free 2;have f3:=I.out.res.free 3;have f4:=I.out.res.free 4;have f5:=I.out.res.free 5;obtain⟨aB,cB,eB⟩:=I.out.pls.rl.sl;obtain⟨aP,cP,eP⟩:=kP I.out.pls.ownP;obtain⟨aH,cH,eH⟩:=kP I.out.pls.ownH;subst eB eP eH;have a9:=hid I.out.res.typ;generalize (zk es o i).length=l1 at *;generalize (xO es o i).length=l2 at *;generalize (zL es o q).length=l3 at *;have b0:30≠3/\30≠25:=Dd;go_wp2_with fail
     refine bodyPost_ret (v:=.agg #[.slice aB l1 cB,.slice aP l2 cP,.slice aH l3 cH,.slice none 0 0,.int .i64 0,.int .i64 0]) (by simp[results,Tryz.results74,go_sem,d0,d1,d2,d3,d4,d5]) rfl ⟨_,vs,_,_,rfl,?_,?_⟩
     ·rw[<-j5.out];exact(((((I.out.pls.store a9.out b0 _).store (qD a9.out) b0 _).store (qD (qD a9.out)) b0 _).store (qD (qD (qD a9.out))) b0 _).store (qD (qD (qD (qD a9.out)))) b0 _).store (qD (qD (qD (qD (qD a9.out))))) b0 _
     ·exact(((((I.out.bel.setCell (bK _) _).setCell (bK _) _).setCell (bK _) _).setCell (bK _) _).setCell (bK _) _).setCell (bK _) _
def msk(n:Nat)(P:Nat->Bool)(x:Nat->Rat):Rat:=Cov.sm n (λj=>if P j=true then x j else 0)
theorem qBs{P I:Nat->Bool}(h:∀j,j < n->I j=P j):msk n I x=msk n P x:=
 Cov.sm_congr (λj K=>by show(if I j=true then x j else 0)=if P j=true then x j else 0;rw[h j K])
theorem Parts.msk(h:Parts u x)(I:u<=7)(P:Nat->Bool):Sm 36000 (msk u P x):=by
 refine Parts.sum (x:=λj=>if P j=true then x j else 0) ?_ (bK u) I;obtain⟨D,K,M,O⟩:=h;refine⟨D,K,M,λj U=>?_⟩;show Cov.Whole 5040 ((if P j=true then x j else 0)*((D:Int):Rat));cases P j
 ·exact⟨0,Ss,Ss⟩
 ·simpa using O j U
theorem qCx{bag:List Int}{es:List (List Int)}(I:qY bag.length es.length (inc (qG bag es)) x){r:Nat}(hr:r < bag.length):1<=msk es.length (λe=>decide (bag.getD r 0∈es.getD e [])) x:=by
 have:=I.1.2 r hr
 have e:Cov.sm es.length (λe=>inc (qG bag es) r e*x e)=msk es.length (λe=>decide (bag.getD r 0∈es.getD e [])) x:=Cov.sm_congr (λe K=>by
  show inc (qG bag es) r e*x e=if decide (bag.getD r 0∈es.getD e [])=true then x e else 0
  rw[Yb hr K];by_cases h:bag.getD r 0∈es.getD e []
  ·rw[if_pos h,if_pos (decide_eq_true h)];grind
  ·rw[if_neg h,if_neg (by simpa using h)];grind)
 rw[<-e];exact this
theorem Yg{l:List Int}(h:qL l=true):∀j,j < l.length->∀i,i < j->l.getD i 0 < l.getD j 0
 |0,_,_,hi=>Oo
 |j+1,K,i,hi=>by
  have M:l.getD j 0 < l.getD (j+1) 0:=by
   rcases (x9 h K).2.2 with I|I
   ·omega
   ·simpa using I
  rcases Nat.lt_or_ge i j with I|I
  ·have:=Yg h j Oo i I;omega
  ·have:i=j:=Oo;rw[this];exact M
theorem Zv{P:Program}{f:FuncId}{args:Array Value}{R:Ending->World->Prop}(h:Calls P f args w R):∃e w',R e w':=by
 obtain⟨e,w',_,hr,_⟩:=h [];exact⟨e,w',hr⟩
theorem ZD{m:Nat}{M:Nat->Nat->Rat}{y:Nat->Rat}(h:qY m u M x)(k:qY m u M y):∀i,i < u->x i=y i:=
 Cov.key_inj (Cov.Lex.antisymm (h.2 y k.1) (k.2 x h.1))
end Go.Proofs.YtkaipapdlnojiaaGreat
