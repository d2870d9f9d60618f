import Derived.Test.YtcnfapnfmnolbaaGreatRq36
set_option maxHeartbeats 40000000
set_option maxRecDepth 1000000
namespace Go.Proofs.YtcnfapnfmnolbaaGreat
open Go.RowKit
variable {k:Int}{ps:LI}{bs es:LL}
structure TRp(W:World)(g:Nat)(x y:Int):Prop where
 typ:∃cur,W.1[g]?=some (.cells cur 36 (0,0))
 two:Two W g x y
section
variable {W W' w3:World} {g B:Nat} {x y:Int} {v:Value} {o:Obj}
theorem TRp.lt(h:TRp W g x y):g<W.1.size:=xX h.typ
theorem TRp.below(h:TRp W g x y)(hb:Bl W W'):TRp W' g x y:=⟨by rw[hb.block g h.lt];exact h.typ,h.two.below h.lt hb⟩
theorem TRp.move(h:TRp W g x y)(e:W'.1[g]?=W.1[g]?):TRp W' g x y:=
 ⟨by rw[e];exact h.typ,(bF (w:=W) (a:=(az g 0)) e).trans h.two.1,(bF (w:=W) (a:=(az g 1)) e).trans h.two.2.1,(World.frozen?_of_block (w:=W) (a:=(az g 0)) e).trans h.two.2.2.1,(World.frozen?_of_block (w:=W) (a:=(az g 1)) e).trans h.two.2.2.2⟩
theorem TRp.new(W:World)(x y:Int):TRp (W.alloc (.cells #[ai x,ai y] 36)) W.1.size x y:=
 ⟨⟨_,heap_alloc_new _ _⟩,by rw[bE _ _ _ _ rfl];rfl,by rw[bE _ _ _ _ rfl];rfl,World.frozen?_alloc_at _ _ _ _ rfl,World.frozen?_alloc_at _ _ _ _ rfl⟩
theorem TRp.set(h:TRp W g x y)(I K:Int):TRp ((W.setCell (az g 0) (ai I)).setCell (az g 1) (ai K)) g I K:=⟨qX (qX h.typ),h.two.set I K⟩
theorem TRp.other{g':Nat}(h:TRp W g x y)(I:g≠g')(a b:Value):TRp ((W.setCell (az g' 0) a).setCell (az g' 1) b) g x y:=
 h.move (by rw[bD _ _ _ _ (by exact I),bD _ _ _ _ (by exact I)])
theorem TRp.grow{n:Nat}{xs:List Value}(h:TRp W g x y)(I:some g≠v.ownBlock)(K:(W.alloc o).grownBy w3 v.ownBlock)(_hown:W.ownsRow B 36 2 v n xs):TRp w3 g x y:=h.move (zk K h.lt I)
end
theorem qB4(w:World)(x y:Value)(t:TypeId):∀j u,[x,y][j]?=some u->(w.alloc (.cells #[x,y] t)).cell? (((az w.1.size 0):Addr).add j)=some u:=by
 intro j u I;match j,I with
 |0,I=>simp at I;subst I;simp[Addr.add]
 |1,I=>simp at I;subst I;simp[Addr.add]
theorem Y7(w:World)(vb ve:Value)(bs es:LL)(hb:ISS w vb bs)(g9:bs.length<=1000)(h:ISS w ve es)(hl:qT es)(he:zX es=true)(hg:∀i,i<bs.length->GoodBag es (bs.getD i [])/\1<=(bs.getD i []).length):
 Cl 90 #[vb,ve] w λe w'=>∃v,e=.returned (.tuple #[v,.agg #[ai (qt (λi=>wdR es (bs.getD i [])) bs.length).num,ai (qt (λi=>wdR es (bs.getD i [])) bs.length).den]])/\
  w'.ownsRow w.1.size 36 2 v bs.length (rcs (prs bs.length (λi=>wdR es (bs.getD i []))))/\Bl w w':=by
 obtain⟨iR,hi,h2,h3,h4⟩:=info_parts Tryz.infoRatS;have h5:=ay h;have HL:=ay hl;obtain⟨aE,cE,rfl,-⟩:=h;have KW:Hh (∀W u i,Bl w W->i<bs.length->IS W u (bs.getD i [])->Cl 117 #[u,.slice aE es.length cE] W λe w'=>e=.returned (.agg #[ai (wdR es (bs.getD i [])).num,ai (wdR es (bs.getD i [])).den])/\Bl W w'):=
  ay λW u i hW hi hu=>UW W u _ (bs.getD i []) es hu (h5.o.below hW) HL.o he (hg i hi).1 (hg i hi).2
 have c7:Hh (∀i,i<bs.length->Sm 36000 (wdR es (bs.getD i []))):=ay λi hi=>(hg i hi).1.sm he;have c8:Hh (∀k,k<=bs.length->Sm 36000 (qt (λi=>wdR es (bs.getD i [])) k)):=ay λk hk=>XO Oo (λi hi=>c7.o i Oo);obtain⟨a,cap,rfl,hc⟩:=hb;have HC:=ay hc;obtain⟨f,hf⟩:=Ex (λi=>wdR es (bs.getD i []):Nat->Rat);have h6:Hh (∀i,wdR es (bs.getD i [])=f i):=ay λi=>by rw[hf]
 rw[<-hf]at c8 ⊢;have h7:Hh (∀k,qt f k<f k->qt f (k+1)=f k):=ay λk hk=>by show(if _ then _ else _)=_;rw[if_pos hk]
 have h8:Hh (∀k,¬qt f k<f k->qt f (k+1)=qt f k):=ay λk hk=>by show(if _ then _ else _)=_;rw[if_neg hk]
 have H0:Hh (qt f 0=0):=ay rfl;have h9:=ay (λk=>ZA k f);have i0:Hh (rcs (prs 0 f)=[]):=ay rfl;obtain⟨n,hn⟩:=Ex bs.length;rw[<-hn]at g9 KW c7 c8 HC ⊢;clear hc hf hn hg hl he;generalize qt f=MN at *;have a9:Bl w (w.alloc (.cells #[ai 0,ai 0] 36)):=(bJ _ _).alloc (nR _) _;have M:=a9.alloc a9.size (.cells #[] 36);have e0:=M.alloc M.size (.cells #[ai 0,ai 1] 36);have hA:∀W:World,∀o,Bl W (W.alloc o):=λW o=>(bJ _ _).alloc (nR _) _;have t1:=((TRp.new w 0 0).below (hA _ (.cells #[] 36))).below (hA _ (.cells #[ai 0,ai 1] 36));have t2:=TRp.new ((w.alloc (.cells #[ai 0,ai 0] 36)).alloc (.cells #[] 36)) 0 1;have ow:((w.alloc (.cells #[ai 0,ai 0] 36)).alloc (.cells #[] 36)).ownsRow w.1.size 36 2 (.slice (some ⟨(w.alloc (.cells #[ai 0,ai 0] 36)).1.size,0,none⟩) 0 0) 0 []:=oM (w.alloc (.cells #[ai 0,ai 0] 36)) #[] 0 a9.size Dd rfl;have c9:=qB ow (hA _ (.cells #[ai 0,ai 1] 36));have s1:(w.alloc (.cells #[ai 0,ai 0] 36)).1.size=w.1.size+1:=Ss;have s2:((w.alloc (.cells #[ai 0,ai 0] 36)).alloc (.cells #[] 36)).1.size=w.1.size+1+1:=Ss;rw[s1]at c9;rw[s2]at t2;have HX:Hh (Bl w (((w.alloc (.cells #[ai 0,ai 0] 36)).alloc (.cells #[] 36)).alloc (.cells #[ai 0,ai 1] 36))/\TRp (((w.alloc (.cells #[ai 0,ai 0] 36)).alloc (.cells #[] 36)).alloc (.cells #[ai 0,ai 1] 36)) w.1.size 0 0/\TRp (((w.alloc (.cells #[ai 0,ai 0] 36)).alloc (.cells #[] 36)).alloc (.cells #[ai 0,ai 1] 36)) (w.1.size+1+1) 0 1/\
  (((w.alloc (.cells #[ai 0,ai 0] 36)).alloc (.cells #[] 36)).alloc (.cells #[ai 0,ai 1] 36)).ownsRow w.1.size 36 2 (.slice (some (az (w.1.size+1) 0)) 0 0) 0 []):=ay ⟨e0,t1,t2,c9⟩
 clear a9 M e0 hA t1 t2 ow c9 s1 s2;go_enter Tryz.func90,Tryz.ntmps90;go_wp2;go_loopw [6,15] (λv t wr=>∃(k:Nat) (vc:Value),k<=n/\t=ai k/\vc=v/\w.1.size+1+1<wr.1.size/\Hh (Bl w wr/\TRp wr w.1.size 0 0/\TRp wr (w.1.size+1+1) (MN k).num (MN k).den/\wr.ownsRow w.1.size 36 2 vc k (rcs (prs k f))/\∀g,vc.ownBlock=some g->g≠w.1.size/\g≠w.1.size+1+1)) (λ_ t _=>n-(intOf t).toNat)
 case atStart=>
  refine⟨0,_,nZ _,rfl,rfl,Ss,ay ⟨HX.o.1,HX.o.2.1,by rw[H0.o];exact HX.o.2.2.1,by rw[i0.o];exact HX.o.2.2.2,λg hg=>?_⟩⟩;have:=Z7 hg;omega
 case round=>
  clear HX;obtain⟨k,vc,i2,rfl,rfl,j4,hH⟩:=hrel;generalize wr=W1 at *;have a3:=ay hH.o.1;have V:=ay hH.o.2.1;have b0:=ay hH.o.2.2.1;have d0:=ay hH.o.2.2.2.1;have b1:=ay hH.o.2.2.2.2;clear hH;by_cases d3:k<n
  ·have i1:(k:Int)<(n:Int):=Oo;rcases HC.o with h0|⟨b,o,rfl,a4⟩;omega;obtain⟨u,e1,hu⟩:=a4 k d3;have c1:=qJ a3.o e1;have d4:=ay (KW.o W1 u k a3.o d3 (hu.below a3.o));have d5:=c7.o k d3;have e7:=c8.o k i2;rw[h6.o k]at d4 d5;have KL:Hh (∀W,Cl 118 #[.agg #[ai (MN k).num,ai (MN k).den],.agg #[ai (f k).num,ai (f k).den]] W λe w'=>e=.returned (.bool (decide (MN k<f k)))/\Bl W w'):=ay λW=>jV (MN k) (f k) W e7 d5 Dd;have d6:=h7.o k;have d7:=h8.o k;have i3:=ay (h9.o k);obtain⟨a1,j2,rfl,-⟩:=hu;clear a4 e1 d5 e7;generalize (bs.getD k []).length=lk at *;generalize hx:(f k).num=x at *;generalize hy:((f k).den:Int)=y at *;generalize hx0:(MN k).num=x0 at *;generalize hy0:((MN k).den:Int)=y0 at *;have HX:=ay hx;have HY:=ay hy;have i4:=ay hx0;have i5:=ay hy0;clear hx hy hx0 hy0;go_wp2_with fail;refine d4.o.mono ?_;rintro e W2 ⟨rfl,M⟩;have j5:=ay M;have hA:Bl W2 (W2.alloc (.cells #[ai x,ai y] 36)):=(bJ _ _).alloc (nR _) _;have a5:=ay (TRp.new W2 x y);have b9:=ay (bt M hA);have i6:=ay (qB d0.o (bt M hA));have i7:=ay (b0.o.below (bt M hA));have i8:=ay (V.o.below (bt M hA));have d1:=a5.o.two.1;have d2:=a5.o.two.2.1;have e8:=M.size;clear M hA d4 c1 V b0;go_upto_region 7 with fail;obtain⟨G,hG⟩:=Ex W2.1.size;rw[<-hG]at a5 d1 d2 e8 ⊢;clear hG;generalize W2.alloc (.cells #[ai x,ai y] 36)=W3 at *;have O:=i6.o;have e9:=(bt a3.o b9.o).size;have j3:=a5.o.lt;go_wp2_with (first
    |(at_builtin;refine wpList_append_lies _ rfl _ _ 35 rfl w.1.size 36 iR (.agg #[ai 0,ai 0]) 2 16 Tryz.underlying35 hi h2 h3 h4 rfl Dd _ _ _ rfl (O.alloc _) (az W3.1.size 0) 1 1 [ai x,ai y] rfl rfl ?ka1 ?ka2 Dd ?ka3 ?ka4 ?ka5 _ rfl ?_)|fail)
   case ka1=>exact qB4 _ _ _ _
   case ka2=>intro u hu;simp at hu;rcases hu with rfl|rfl <;> rfl
   case ka3=>unfold maxLen;omega
   case ka4=>omega
   case ka5=>exact bM e9 Ss
   intro g cp w4 a6 K f7 j6;have f8:some G≠vc.ownBlock:=λe=>by
    have:=(d0.o.lt G e.symm).2;omega
   have f9:=i8.o.grow (λe=>(b1.o _ e.symm).1 rfl) K O;have b7:=i7.o.grow (λe=>(b1.o _ e.symm).2 rfl) K O;have b8:=a5.o.grow f8 K O;have g4:=zT e9 O (bt a3.o b9.o) K;have k0:W3.1.size<w4.1.size:=by
    have:=K.size;simp at this;omega
   have d8:Hh (∀g',(Value.slice (some (az g 0)) (k+1) cp).ownBlock=some g'->g'≠w.1.size/\g'≠w.1.size+1+1):=ay λg' e=>by
    have e2:=Z7 e;subst e2;rcases f7 with h1|h1;exact b1.o _ h1;omega
   have g5:Hh (w4.ownsRow w.1.size 36 2 (.slice (some (az g 0)) (k+1) cp) (k+1) (rcs (prs (k+1) f))):=ay (by rw[i3.o];exact a6);have g6:=ay f9;have g7:=ay b7;have i9:=ay b8;have g8:=ay g4;have y1:=b7.two.1;have y2:=b7.two.2.1;have y3:=b8.two.1;have y4:=b8.two.2.1;clear f9 b7 b8 g4 a6 K f7 O f8 d1 d2;by_cases U:MN k<f k
   ·have HE:=ay (d6 U);have a7:=ay (KL.o w4);rw[decide_eq_true U]at a7;clear d6 d7 KL U;go_wp2_with fail;refine a7.o.mono ?_;rintro e w5 ⟨rfl,I⟩;have q1:=g7.o.below I;have q2:=i9.o.below I;have q3:=g6.o.below I;have e1:=q1.two.1;have e2:=q1.two.2.1;have e3:=q1.two.2.2.1;have e4:=q1.two.2.2.2;have e5:=q2.two.1;have e6:=q2.two.2.1;have j0:=I.size;have HF:Hh (Bl w ((w5.setCell (az (w.1.size+1+1) 0) (ai x)).setCell (az (w.1.size+1+1) 1) (ai y))/\TRp ((w5.setCell (az (w.1.size+1+1) 0) (ai x)).setCell (az (w.1.size+1+1) 1) (ai y)) w.1.size 0 0/\TRp ((w5.setCell (az (w.1.size+1+1) 0) (ai x)).setCell (az (w.1.size+1+1) 1) (ai y)) (w.1.size+1+1) (MN (k+1)).num (MN (k+1)).den/\
     ((w5.setCell (az (w.1.size+1+1) 0) (ai x)).setCell (az (w.1.size+1+1) 1) (ai y)).ownsRow w.1.size 36 2 (.slice (some (az g 0)) (k+1) cp) (k+1) (rcs (prs (k+1) f))/\∀g',(Value.slice (some (az g 0)) (k+1) cp).ownBlock=some g'->g'≠w.1.size/\g'≠w.1.size+1+1):=ay (by
     refine⟨((bt g8.o I).setCell (by show w.1.size<=w.1.size+1+1;omega) _).setCell (by show w.1.size<=w.1.size+1+1;omega) _,q3.other Oo _ _,by rw[HE.o,HX.o,HY.o];exact q1.set _ _,?_,d8.o⟩;exact qC (qB g5.o I) (λg' d9=>by
      have a8:=(d8.o g' d9).2;rw[bD _ _ _ _ (by exact a8),bD _ _ _ _ (by exact a8)]))
    clear I q1 q2 q3;go_wp2_with fail;go_roundw;exact⟨k+1,_,Oo,Gg,rfl,by simp[World.setCell];omega,HF⟩;exact Im
   have HE:=ay (d7 U);have a7:=ay (KL.o w4);rw[decide_eq_false U]at a7;clear d6 d7 KL U;go_wp2_with fail;refine a7.o.mono ?_;rintro e w5 ⟨rfl,I⟩;have j0:=I.size;have HF:Hh (Bl w w5/\TRp w5 w.1.size 0 0/\TRp w5 (w.1.size+1+1) (MN (k+1)).num (MN (k+1)).den/\
    w5.ownsRow w.1.size 36 2 (.slice (some (az g 0)) (k+1) cp) (k+1) (rcs (prs (k+1) f))/\∀g',(Value.slice (some (az g 0)) (k+1) cp).ownBlock=some g'->g'≠w.1.size/\g'≠w.1.size+1+1):=ay
    ⟨bt g8.o I,g6.o.below I,by rw[HE.o,i4.o,i5.o];exact g7.o.below I,qB g5.o I,d8.o⟩
   clear I;go_wp2_with fail;go_roundw;exact⟨k+1,_,Oo,Gg,rfl,Oo,HF⟩;exact Im
  obtain rfl:k=n:=Oo;have i1:¬((k:Int)<(k:Int)):=Oo;have c1:=V.o.two.1;have c2:=V.o.two.2.1;have c3:=V.o.two.2.2.1;have c4:=V.o.two.2.2.2;have e1:=b0.o.two.1;have e2:=b0.o.two.2.1;generalize hx:(MN k).num=x at *;generalize hy:((MN k).den:Int)=y at *;have HX:=ay hx;have HY:=ay hy;clear hx hy;have HF:Hh (∀W',W'=((W1.setCell (az w.1.size 0) (ai x)).setCell (az w.1.size 1) (ai y)).drew->W'.cell? (az w.1.size 0)=some (ai x)/\W'.cell? (az w.1.size 1)=some (ai y)/\W'.ownsRow w.1.size 36 2 vc k (rcs (prs k f))/\Bl w W'):=ay λW' e=>by
   have q:=V.o.set x y;have j1:Bl w ((W1.setCell (az w.1.size 0) (ai x)).setCell (az w.1.size 1) (ai y)):=(a3.o.setCell (nR _) _).setCell (nR _) _;have hb:=j1.drew;have hh:∀b:Nat,W'.1[b]?=((W1.setCell (az w.1.size 0) (ai x)).setCell (az w.1.size 1) (ai y)).1[b]?:=λb=>by rw[e];rfl
   refine⟨(bF (w:=(W1.setCell (az w.1.size 0) (ai x)).setCell (az w.1.size 1) (ai y)) (a:=(az w.1.size 0)) (hh w.1.size)).trans q.two.1,(bF (w:=(W1.setCell (az w.1.size 0) (ai x)).setCell (az w.1.size 1) (ai y)) (a:=(az w.1.size 1)) (hh w.1.size)).trans q.two.2.1,qC d0.o (λg' d9=>?_),by rw[e];exact hb⟩;have a8:=(b1.o g' d9).1;rw[hh,bD _ _ _ _ (by exact a8),bD _ _ _ _ (by exact a8)]
  go_wp2_with fail;go_region
  obtain⟨r1,r2,r3,r4⟩:=HF.o _ rfl;go_wp2;refine bodyPost_ret (v:=.tuple #[vc,.agg #[ai x,ai y]]) (by simp[results,Tryz.results90,go_sem,r1,r2]) rfl ⟨_,by rw[HX.o,HY.o],r3,r4⟩
def bpB(k:Int)(bs:LL)(ps:LI)(i:Nat):Bool:=za k (bs.getD i [])&&yc bs.length ps i
theorem qC8{hs:LI}{ws:List (Int×Int)}{x:Int×Int}:
 zM k es bs ps hs ws x=(zg k es&&decide (bs.length<=12)&&decide (ps.length=bs.length)&&decide (hs.length=es.length)&&decide (ws.length=bs.length)&&(List.range bs.length).all (bpB k bs ps)&&uG k bs ps&&
  ((List.range es.length).all λi=>zc (hs.getD i 0) (es.getD i []) bs)&&(List.range bs.length).all (xc es bs ws)&&decide (x=rp (qt (λi=>wdR es (bs.getD i [])) bs.length))):=by
 unfold zM yH zw yQ Qu;by_cases I:ps.length=bs.length
 ·have O:decide ((ps.length:Int)=(bs.length:Int))=true:=decide_eq_true Oo;have U:(List.range bs.length).all (bpB k bs ps)=(bs.all (za k)&&(List.range ps.length).all (yc bs.length ps)):=by
   rw[I];have:bs.all (za k)=(List.range bs.length).all (λi=>za k (bs.getD i [])):=by
    cases hc:bs.all (za k)
    rw[List.all_eq_false]at hc;obtain⟨b,hb,K⟩:=hc;obtain⟨j,M,e⟩:=gO hb;exact(qf M (by rw[gD,gE M,Option.getD_some,e];simpa using K)).symm;rw[aT]at hc;exact(qh (λi hi=>hc _ (by rw[gD,gE hi];exact gM hi))).symm
   rw[this];generalize (List.range bs.length)=R;induction R with
   |nil=>rfl
   |cons r R ih=>
    simp only[List.all_cons,ih,bpB];cases za k (bs.getD r []) <;> cases yc bs.length ps r <;> simp
  rw[O,decide_eq_true I,U];cases zg k es <;> cases decide (bs.length<=12) <;> cases bs.all (za k) <;> cases (List.range ps.length).all (yc bs.length ps) <;> cases uG k bs ps <;> cases decide (hs.length=es.length) <;> cases decide (ws.length=bs.length) <;> simp[Bool.and_assoc]
 rw[decide_eq_false (by omega:¬(ps.length:Int)=(bs.length:Int)),decide_eq_false I];simp
theorem qEI(hl:ps.length=bs.length)(h:∀i,i<bs.length->bpB k bs ps i=true):ku ps bs.length:=by
 refine⟨hl,λi hi=>?_⟩;have:=h i hi;unfold bpB yc at this;rw[bV,Bool.or_eq_true,bV,dE,dE,dE]at this;omega
theorem qFZ(I:zg k es=true)(h:∀i,i<bs.length->bpB k bs ps i=true):∀i,i<bs.length->GoodBag es (bs.getD i [])/\1<=(bs.getD i []).length:=by
 intro i hi;have:=h i hi;unfold bpB za at this;rw[bV,bV,bV]at this;exact⟨Y5 I this.1.1.2 this.1.2,by have:=this.1.1.1;simp at this;exact List.length_pos_iff.2 (by simpa using this)⟩
theorem UT(w:World)(vb vp vh vw ve:Value)(k x0 y0:Int)(es bs:LL)(ps hs:LI)(ws:List (Int×Int))(he:ISS w ve es)(hle:qT es)(hb:ISS w vb bs)(hl:qT bs)
 (hp:IS w vp ps) (hh:IS w vh hs) (h9:IR w vw ws):
 Cl 60 #[ai k,ve,.agg #[vb,vp,vh,vw,ai x0,ai y0]] w λe w'=>e=.returned (.bool (zM k es bs ps hs ws (x0,y0)))/\Bl w w':=by
 have K:Hh (Bl w (w.alloc (.cells #[vb,vp,vh,vw,ai x0,ai y0] 38))):=ay (aK);have c0:(w.alloc (.cells #[vb,vp,vh,vw,ai x0,ai y0] 38)).cell? (az w.1.size 0)=some vb:=by rw[bE _ _ _ _ rfl];rfl
 have c1:(w.alloc (.cells #[vb,vp,vh,vw,ai x0,ai y0] 38)).cell? (az w.1.size 1)=some vp:=by rw[bE _ _ _ _ rfl];rfl
 have c2:(w.alloc (.cells #[vb,vp,vh,vw,ai x0,ai y0] 38)).cell? (az w.1.size 2)=some vh:=by rw[bE _ _ _ _ rfl];rfl
 have c3:(w.alloc (.cells #[vb,vp,vh,vw,ai x0,ai y0] 38)).cell? (az w.1.size 3)=some vw:=by rw[bE _ _ _ _ rfl];rfl
 have c4:(w.alloc (.cells #[vb,vp,vh,vw,ai x0,ai y0] 38)).cell? (az w.1.size 4)=some (ai x0):=by rw[bE _ _ _ _ rfl];rfl
 have c5:(w.alloc (.cells #[vb,vp,vh,vw,ai x0,ai y0] 38)).cell? (az w.1.size 5)=some (ai y0):=by rw[bE _ _ _ _ rfl];rfl
 obtain⟨W,hW⟩:=Ex (w.alloc (.cells #[vb,vp,vh,vw,ai x0,ai y0] 38));rw[<-hW]at K c0 c1 c2 c3 c4 c5;have HE:=ay (he.below K.o);have a8:=ay (hb.below K.o);have HP:=ay (hp.below K.o);have HH:=ay (hh.below K.o);have f8:=ay (h9.below' K.o);have HL:=ay hl;have d4:=ay hle;obtain⟨ae,i5,rfl,-⟩:=he;obtain⟨ab,e7,rfl,-⟩:=hb;obtain⟨ap,i6,rfl,-⟩:=hp;obtain⟨ah,i7,rfl,-⟩:=hh;obtain⟨aw,i8,rfl,-⟩:=h9;have l6:=hl.1;have l7:=hle.1;obtain⟨res,b8⟩:=Ex (zM k es bs ps hs ws (x0,y0));rw[<-b8];rw[qC8]at b8;have HR:=ay b8;clear b8 hl hle;have K1:=ay (YG W _ k es HE.o d4.o);cases hpat:zg k es
 ·obtain rfl:res=false:=by rw[HR.o,hpat];simp
  rw[hpat]at K1;go_enter Tryz.func60,Tryz.ntmps60;go_upto_region 1 with fail;rw[<-hW];clear hW;go_wp2_with fail;refine K1.o.mono ?_;rintro e w1 ⟨rfl,a6⟩;subst w1;go_wp2_with fail;go_ret;exact⟨rfl,K.o⟩
 rw[hpat]at K1 HR;rw[Bool.true_and]at HR;have d5:=yR hpat;have l8:=d5.1;have i9:=d5.2.1;have l9:=ay d5.2.2;have j0:=ay hpat;clear hpat d5;by_cases d6:bs.length<=12
 case neg=>
  obtain rfl:res=false:=by rw[HR.o,decide_eq_false d6];simp
  have i1:(12:Int)<(bs.length:Int):=Oo;clear a8 HR;generalize bs.length=n at *;go_enter Tryz.func60,Tryz.ntmps60;go_upto_region 1 with fail;rw[<-hW];clear hW;go_wp2_with fail;refine K1.o.mono ?_;rintro e w1 ⟨rfl,a6⟩;subst w1;go_wp2_with fail;go_ret;exact⟨rfl,K.o⟩
 have d12:¬((12:Int)<(bs.length:Int)):=Oo;by_cases a7:ps.length=bs.length
 case neg=>
  obtain rfl:res=false:=by rw[HR.o,decide_eq_false a7];simp
  have i1:((ps.length:Int) != (bs.length:Int))=true:=Sy;clear a8 HP HR;generalize bs.length=n at *;generalize ps.length=n1 at *;go_enter Tryz.func60,Tryz.ntmps60;go_upto_region 1 with fail;rw[<-hW];clear hW;go_wp2_with fail;refine K1.o.mono ?_;rintro e w1 ⟨rfl,a6⟩;subst w1;go_wp2_with fail;go_ret;exact⟨rfl,K.o⟩
 by_cases c8:hs.length=es.length
 case neg=>
  obtain rfl:res=false:=by rw[HR.o,decide_eq_false c8];simp
  have i1:((hs.length:Int) != (es.length:Int))=true:=Sy;have i0:((bs.length:Int) != (bs.length:Int))=false:=Ss;rw[a7]at hW c1 ⊢;clear a8 HP HH HR a7;generalize bs.length=n at *;generalize hs.length=n2 at *;go_enter Tryz.func60,Tryz.ntmps60;go_upto_region 1 with fail;rw[<-hW];clear hW;go_wp2_with fail;refine K1.o.mono ?_;rintro e w1 ⟨rfl,a6⟩;subst w1;go_wp2_with fail;go_ret;exact⟨rfl,K.o⟩
 by_cases d7:ws.length=bs.length
 case neg=>
  obtain rfl:res=false:=by rw[HR.o,decide_eq_false d7];simp
  have i1:((ws.length:Int) != (bs.length:Int))=true:=Sy;have i0:((bs.length:Int) != (bs.length:Int))=false:=Ss;have i2:((es.length:Int) != (es.length:Int))=false:=Ss;rw[a7]at hW c1 ⊢;rw[c8]at hW c2 ⊢;clear a8 HP HH f8 HR a7 c8;generalize bs.length=n at *;generalize ws.length=n3 at *;go_enter Tryz.func60,Tryz.ntmps60;go_upto_region 1 with fail;rw[<-hW];clear hW;go_wp2_with fail;refine K1.o.mono ?_;rintro e w1 ⟨rfl,a6⟩;subst w1;go_wp2_with fail;go_ret;exact⟨rfl,K.o⟩
 rw[decide_eq_true d6,decide_eq_true a7,decide_eq_true c8,decide_eq_true d7]at HR;simp only[Bool.true_and]at HR;have F1:Hh (∀i,i<bs.length->bpB k bs ps i=false->res=false):=ay λi hi e=>by rw[HR.o,qf hi e];simp
 have F2:Hh (∀v:Nat,v<k.toNat->decide (zA (v:Int) bs ps bs.length=1)=false->res=false):=ay λv hv e=>by
  rw[HR.o,show uG k bs ps=false from qf hv e];simp
 have F3:Hh (∀i,i<es.length->zc (hs.getD i 0) (es.getD i []) bs=false->res=false):=ay λi hi e=>by
  rw[HR.o,qf (p:=λi=>zc (hs.getD i 0) (es.getD i []) bs) hi e];simp
 have F4:Hh (∀i,i<bs.length->xc es bs ws i=false->res=false):=ay λi hi e=>by rw[HR.o,qf hi e];simp
 have F5:Hh ((∀i,i<bs.length->bpB k bs ps i=true)->(∀v:Nat,v<k.toNat->decide (zA (v:Int) bs ps bs.length=1)=true)->(∀i,i<es.length->zc (hs.getD i 0) (es.getD i []) bs=true)->(∀i,i<bs.length->xc es bs ws i=true)->res=decide ((x0,y0)=rp (qt (λi=>wdR es (bs.getD i [])) bs.length))):=ay λh1 h2 h3 h4=>by
  rw[HR.o,qh h1,show uG k bs ps=true from qh h2,qh (p:=λi=>zc (hs.getD i 0) (es.getD i []) bs) h3,qh h4];simp
 have f9:Hh ((∀i,i<bs.length->bpB k bs ps i=true)->ku ps bs.length):=ay (qEI a7);have j1:Hh ((∀i,i<bs.length->bpB k bs ps i=true)->∀i,i<bs.length->GoodBag es (bs.getD i [])/\1<=(bs.getD i []).length):=ay (qFZ j0.o);have g4:Hh (∀i,bpB k bs ps i=(!decide ((bs.getD i []).length=0)&&zx k (bs.getD i [])&&(decide (ps.getD i 0=-1)||(decide ((i:Int)<ps.getD i 0)&&decide (ps.getD i 0<(bs.length:Int)))))):=ay λi=>by
  unfold bpB za yc;rw[Jw i9,Bool.and_assoc (!decide _)]
 have g5:Hh (∀i,zc (hs.getD i 0) (es.getD i []) bs=if (es.getD i []).length=0 then decide (hs.getD i 0=-1) else decide (0<=hs.getD i 0)&&decide (hs.getD i 0<(bs.length:Int))&&yE (es.getD i []) (bs.getD (hs.getD i 0).toNat [])):=ay λi=>rfl;have m0:Hh (∀i,xc es bs ws i=decide (ws.getD i (0,0)=rp (wdR es (bs.getD i [])))):=ay λ_=>rfl;clear HR;have m1:=a8.o;have m2:=HP.o;have m3:=HH.o;have m4:=f8.o;obtain⟨_,_,j2,g6⟩:=m1;obtain⟨_,_,j3,d8⟩:=m2;obtain⟨_,_,j4,d9⟩:=m3;obtain⟨_,_,j5,e0⟩:=m4;simp only[Value.slice.injEq,true_and]at j2 j3 j4 j5;obtain⟨rfl,rfl⟩:=j2;obtain⟨rfl,rfl⟩:=j3;obtain⟨rfl,rfl⟩:=j4;obtain⟨rfl,rfl⟩:=j5;have m5:=HE.o;obtain⟨_,_,j6,g7⟩:=m5;simp only[Value.slice.injEq,true_and]at j6;obtain⟨rfl,rfl⟩:=j6;have KT:Hh (∀W' v,Bl W W'->ku ps bs.length->Cl 88 #[.agg #[.slice ab bs.length e7,.slice ap ps.length i6,.slice ah hs.length i7,.slice aw ws.length i8,ai x0,ai y0],ai v] W' λe w'=>e=.returned (.bool (decide (zA v bs ps bs.length=1)))/\Bl W' w'):=
  ay λW' v hb m6=>XQ W' _ _ _ _ v x0 y0 bs ps (a8.o.below hb) HL.o d6 (HP.o.below hb) m6
 have g8:Hh (∀W',Bl W W'->(∀i,i<bs.length->bpB k bs ps i=true)->_):=ay λW' hb h1=>Y7 W' (.slice ab bs.length e7) (.slice ae es.length i5) bs es (a8.o.below hb) Oo (HE.o.below hb) d4.o l9.o (j1.o h1);rw[a7]at c1 KT d8 hW ⊢;rw[c8]at c2 KT d9 hW ⊢;rw[d7]at c3 KT e0 hW ⊢;obtain⟨n,hn⟩:=Ex bs.length;obtain⟨m,hm⟩:=Ex es.length;have HN:=ay hn;rw[<-hn]at c0 c1 c3 KT g8 g6 d8 e0 hW F1 F2 F4 F5 f9 j1 g4 g5 d6 d12 l6 ⊢;rw[<-hm]at c2 KT g8 d9 g7 hW F3 F5 l7 K1 ⊢;have k0:=ay g6;have m7:=ay d8;have m8:=ay d9;have m9:=ay e0;have n4:=ay g7;have d1:((n:Int) != (n:Int))=false:=Ss;have d2:((m:Int) != (m:Int))=false:=Ss;have g9:=ay HL.o.2;have n5:=ay d4.o.2;clear g6 d8 d9 e0 g7 hn hm a7 c8 d7 a8 HP HH f8 HE HL d4;go_enter Tryz.func60,Tryz.ntmps60;go_upto_region 1 with fail;rw[<-hW];clear hW;go_wp2_with fail;refine K1.o.mono ?_;rintro e w1 ⟨rfl,a6⟩;subst w1;clear K1;go_wp2_with fail;go_loop [52] (λt=>∃j:Nat,j<=n/\t=ai j/\Hh (∀i,i<j->bpB k bs ps i=true)) (λt=>n-(intOf t).toNat);exact⟨0,nZ _,rfl,ay (λi hi=>Oo)⟩;obtain⟨j,hj,rfl,O⟩:=hrel;by_cases a9:j<n
 ·have i1:(j:Int)<(n:Int):=Oo;rcases k0.o with h0|⟨b,o,rfl,U⟩;omega;rcases m7.o with h0|⟨b2,o2,rfl,M⟩;omega;obtain⟨u,e1,hu⟩:=U j a9;have e2:=M j a9;have HK:=ay (kJ W k l8 i9 u (bs.getD j []) hu (g9.o j));obtain⟨a1,e8,rfl,-⟩:=hu;have fin:=F1.o j a9;have nxt:bpB k bs ps j=true->Hh (∀i,i<j+1->bpB k bs ps i=true):=λe i hi=>by
   by_cases e2:i=j;rw[e2];exact e;exact O.o i Oo
  have V:=g4.o j;have p5:=g9.o j;clear U M O;generalize bpB k bs ps j=y at *;generalize (bs.getD j []).length=lj at *;generalize zx k (bs.getD j [])=y2 at *;generalize ps.getD j 0=x at *;by_cases c9:lj=0
  ·subst c9;obtain rfl:=fin (by rw[V];rfl);clear nxt V;go_wp2_with fail;go_ret;exact⟨rfl,K.o⟩
  have n6:¬((lj:Int)=0):=Oo;rw[decide_eq_false c9,Bool.not_false,Bool.true_and]at V;cases y2
  ·obtain rfl:=fin (by rw[V];rfl);clear nxt V;go_wp2_with fail;refine HK.o.mono ?_;rintro e w1 ⟨rfl,a6⟩;subst w1;go_wp2_with fail;go_ret;exact⟨rfl,K.o⟩
  rw[Bool.true_and]at V;by_cases b1:x=-1
  ·subst b1;have hf:=nxt (by rw[V];rfl);clear fin nxt V;go_wp2_with fail;refine HK.o.mono ?_;rintro e w1 ⟨rfl,a6⟩;subst w1;go_wp2_with fail;go_round;exact⟨j+1,Oo,Gg,hf⟩;exact Im
  have x1:(x != -1)=true:=by simpa using b1
  rw[decide_eq_false b1,Bool.false_or]at V;by_cases h2:x<=(j:Int)
  ·obtain rfl:=fin (by rw[V,decide_eq_false Oo];rfl);clear nxt V;go_wp2_with fail;refine HK.o.mono ?_;rintro e w1 ⟨rfl,a6⟩;subst w1;go_wp2_with fail;refine(yg _ _ _ _ Oo).mono ?_;rintro e w1 ⟨rfl,a6⟩;subst w1;go_wp2_with fail;go_ret;exact⟨rfl,K.o⟩
  rw[decide_eq_true (by omega:(j:Int)<x),Bool.true_and]at V;by_cases h3:(n:Int)<=x
  ·obtain rfl:=fin (by rw[V,decide_eq_false Oo]);clear nxt V;go_wp2_with fail;refine HK.o.mono ?_;rintro e w1 ⟨rfl,a6⟩;subst w1;go_wp2_with fail;refine(yh _ _ _ _ Oo Oo).mono ?_;rintro e w1 ⟨rfl,a6⟩;subst w1;go_wp2_with fail;go_ret;exact⟨rfl,K.o⟩
  have hf:=nxt (by rw[V,decide_eq_true Oo]);clear fin nxt V;go_wp2_with fail;refine HK.o.mono ?_;rintro e w1 ⟨rfl,a6⟩;subst w1;go_wp2_with fail;refine(zN _ _ _ _ Oo Oo).mono ?_;rintro e w1 ⟨rfl,a6⟩;subst w1;go_wp2_with fail;go_round;exact⟨j+1,Oo,Gg,hf⟩;exact Im
 obtain rfl:n=j:=Oo;have i1:¬((n:Int)<(n:Int)):=Oo;have H1:=ay O.o;have n7:=ay (f9.o O.o);clear O F1 g4 f9;obtain⟨q,hq⟩:=Ex (k.toNat:Nat);have n8:k=(q:Int):=Oo;rw[<-hq]at F2 F5;have p6:=ay n8;clear hq;go_wp2_with fail;go_loopw [10] (λt wr=>∃v:Nat,v<=q/\t=ai v/\Bl W wr/\Hh (∀i:Nat,i<v->decide (zA (i:Int) bs ps n=1)=true)) (λt _=>q-(intOf t).toNat);exact⟨0,nZ _,rfl,bJ _ _,ay (λi hi=>Oo)⟩;obtain⟨v,hv,rfl,I,O⟩:=hrel;by_cases n9:v<q
 ·have i2:(v:Int)<k:=Oo;have z0:=qJ I c0;have z1:=qJ I c1;have z2:=qJ I c2;have z3:=qJ I c3;have z4:=qJ I c4;have z5:=qJ I c5;have k5:=ay (KT.o wr (v:Int) I n7.o);have fin:=F2.o v n9;have nxt:decide (zA (v:Int) bs ps n=1)=true->Hh (∀i:Nat,i<v+1->decide (zA (i:Int) bs ps n=1)=true):=λe i hi=>by
   by_cases e2:i=v;rw[e2];exact e;exact O.o i Oo
  clear O;generalize decide (zA (v:Int) bs ps n=1)=y at *;cases y
  ·obtain rfl:=fin rfl;clear nxt;go_wp2_with fail;refine k5.o.mono ?_;rintro e w1 ⟨rfl,h5⟩;go_wp2_with fail;go_ret;exact⟨rfl,bt K.o (bt I h5)⟩
  have hf:=nxt rfl;clear fin nxt;go_wp2_with fail;refine k5.o.mono ?_;rintro e w1 ⟨rfl,h5⟩;go_wp2_with fail;go_roundw;exact⟨v+1,Oo,Gg,bt I h5,hf⟩;exact Im
 obtain rfl:q=v:=Oo;have i2:¬((q:Int)<k):=Oo;have H2:=ay O.o;generalize wr=W2 at *;have o4:=ay I;clear O I F2 KT;go_wp2_with fail;go_loopw [97] (λt wr=>∃j:Nat,j<=m/\t=ai j/\Bl W2 wr/\Hh (∀i,i<j->zc (hs.getD i 0) (es.getD i []) bs=true)) (λt _=>m-(intOf t).toNat);exact⟨0,nZ _,rfl,bJ _ _,ay (λi hi=>Oo)⟩;obtain⟨j,hj,rfl,b9,O⟩:=hrel;have I:=bt o4.o b9;by_cases h6:j<m
 ·have i3:(j:Int)<(m:Int):=Oo;rcases n4.o with h0|⟨b,o,rfl,U⟩;omega;rcases m8.o with h0|⟨b2,o2,rfl,M⟩;omega;obtain⟨u,k6,hu⟩:=U j h6;have e1:=qJ I k6;have e2:=qJ I (M j h6);have z0:=qJ I c0;have z2:=qJ I c2;have HU:=ay (hu.below I);have k7:=n5.o j;obtain⟨a1,e8,rfl,-⟩:=hu;have fin:=F3.o j h6;have nxt:zc (hs.getD j 0) (es.getD j []) bs=true->Hh (∀i,i<j+1->zc (hs.getD i 0) (es.getD i []) bs=true):=λe i hi=>by
   by_cases e2:i=j;rw[e2];exact e;exact O.o i Oo
  have a5:=g5.o j;clear U M O k6;have e5:Bl wr wr:=bJ _ _;generalize zc (hs.getD j 0) (es.getD j []) bs=y at *;generalize hs.getD j 0=x at *;generalize es.getD j []=ej at *;obtain⟨lj,d0⟩:=Ex ej.length;rw[<-d0]at a5 e1 HU k7;by_cases c9:lj=0
  ·rw[if_pos c9]at a5;subst c9;clear d0;by_cases b1:x=-1
   ·subst b1;have hf:=nxt (by rw[a5];rfl);clear fin nxt a5;go_wp2_with fail;go_roundw;exact⟨j+1,Oo,Gg,b9,hf⟩;exact Im
   obtain rfl:=fin (by rw[a5];exact decide_eq_false b1);have x1:(x != -1)=true:=by simpa using b1
   clear nxt a5;go_wp2_with fail;go_ret;exact⟨rfl,bt K.o I⟩
  have n6:¬((lj:Int)=0):=Oo;rw[if_neg c9]at a5;by_cases k8:0<=x
  case neg=>
   obtain rfl:=fin (by rw[a5,decide_eq_false k8];rfl);clear nxt a5 d0;go_wp2_with fail;go_quiet (first|(go_at_call 87;exact Calls.quiet_of_same (yg _ _ _ _ Oo)))
   go_wp2_with fail;go_ret;exact⟨rfl,bt K.o (below_drewN I _)⟩
  by_cases k9:x<(n:Int)
  case neg=>
   obtain rfl:=fin (by rw[a5,decide_eq_false k9];simp);clear nxt a5 d0;go_wp2_with fail;go_quiet (first|(go_at_call 87;exact Calls.quiet_of_same (yh _ _ _ _ Oo Oo)))
   go_wp2_with fail;go_ret;exact⟨rfl,bt K.o (below_drewN I _)⟩
  rw[decide_eq_true k8,decide_eq_true k9,Bool.true_and,Bool.true_and]at a5;obtain⟨z,rfl⟩:∃z:Nat,x=(z:Int):=⟨x.toNat,Oo⟩;rw[show((z:Int)).toNat=z by omega]at a5;rcases k0.o with h0|⟨b3,o3,rfl,c7⟩;omega;obtain⟨u3,l0,l1⟩:=c7 z Oo;have e3:=qJ I l0;have e6:Hh (∀W',Bl wr W'->Cl 89 #[.slice a1 lj e8,u3] W' λe w'=>e=.returned (.bool (yE ej (bs.getD z [])))/\w'=W'):=ay λW' hb=>
   kK W' _ _ ej (bs.getD z []) (HU.o.below hb) (by rw[<-d0];exact k7) ((l1.below I).below hb) (g9.o z)
  obtain⟨a3,p3,rfl,-⟩:=l1;clear c7 l0 HU d0;generalize (bs.getD z []).length=lz at *;generalize yE ej (bs.getD z [])=sb at *;subst a5;cases y
  ·obtain rfl:=fin rfl;clear nxt;go_wp2_with fail;go_quiet (first|(go_at_call 87;exact Calls.quiet_of_same (zN _ _ _ _ Oo Oo))|(go_at_call 89;exact Calls.quiet_of_same (e6.o _ (below_drewN e5 _)))|(go_at_call 89;exact Calls.quiet_of_same (e6.o _ e5)))
   go_wp2_with fail;go_ret;exact⟨rfl,bt K.o (below_drewN I _)⟩
  have hf:=nxt rfl;clear fin nxt;go_wp2_with fail;go_quiet (first|(go_at_call 87;exact Calls.quiet_of_same (zN _ _ _ _ Oo Oo))|(go_at_call 89;exact Calls.quiet_of_same (e6.o _ (below_drewN e5 _)))|(go_at_call 89;exact Calls.quiet_of_same (e6.o _ e5)))
  go_wp2_with fail;go_roundw;exact⟨j+1,Oo,Gg,below_drewN b9 _,hf⟩;exact Im
 obtain rfl:m=j:=Oo;have i3:¬((m:Int)<(m:Int)):=Oo;have H3:=ay O.o;have z0:=qJ I c0;have h7:=ay (g8.o wr I H1.o);clear O b9 F3 g5;generalize wr=W3 at *;have o5:=ay I;clear I;obtain⟨MX,l2⟩:=Ex (qt (λi=>wdR es (bs.getD i [])) n);rw[<-l2]at h7 F5;clear l2;go_wp2_with fail;refine h7.o.mono ?_;rintro e W4 ⟨v4,rfl,d3,l3⟩;have o6:=Qj (l:=prs n (λi=>wdR es (bs.getD i []))) (by rw[qc];exact d3);obtain⟨a4,p4,e4,h8⟩:=o6;rw[qc]at e4 h8;subst e4;have o7:=ay h8;have l4:=ay (bt o5.o l3);clear h8 d3 l3 h7 z0;have t5:=TRp.new W4 MX.num MX.den;have l5:Bl W (W4.alloc (.cells #[ai MX.num,ai MX.den] 36)):=l4.o.alloc l4.o.size _;have e9:Hh (Bl W4 (W4.alloc (.cells #[ai MX.num,ai MX.den] 36))):=ay (aK);have o8:=ay t5;have o9:=ay l5;have f7:Hh (∀(a:Addr) (v:Value),W4.cell? a=some v->(W4.alloc (.cells #[ai MX.num,ai MX.den] 36)).cell? a=some v):=ay λa v h=>qJ e9.o h;clear t5 l5 e9;go_upto_region 27 with fail;generalize W4.1.size=G at *;generalize W4.alloc (.cells #[ai MX.num,ai MX.den] 36)=W5 at *;go_wp2_with fail;go_loopw [144] (λt wr=>∃j:Nat,j<=n/\t=ai j/\Bl W5 wr/\Hh (∀i,i<j->xc es bs ws i=true)) (λt _=>n-(intOf t).toNat);exact⟨0,nZ _,rfl,bJ _ _,ay (λi hi=>Oo)⟩;obtain⟨j,hj,rfl,b0,O⟩:=hrel;have I:=bt o9.o b0;by_cases a9:j<n
 ·have i4:(j:Int)<(n:Int):=Oo;rcases o7.o with h0|⟨b,o,rfl,U⟩;omega;rcases m9.o with h0|⟨b2,o2,rfl,M⟩;omega;obtain⟨f1,f2⟩:=U j a9;obtain⟨g1,g2⟩:=M j a9;rw[ya a9]at f1 f2;have k1:=qJ b0 (f7.o _ _ f1);have k2:=qJ b0 (f7.o _ _ f2);have k3:=qJ I g1;have k4:=qJ I g2;have z3:=qJ I c3;have fin:=F4.o j a9;have nxt:xc es bs ws j=true->Hh (∀i,i<j+1->xc es bs ws i=true):=λe i hi=>by
   by_cases e2:i=j;rw[e2];exact e;exact O.o i Oo
  have b7:=m0.o j;clear U M O f1 f2 g1 g2;generalize xc es bs ws j=y at *;generalize wdR es (bs.getD j [])=qq at *;unfold rp at b7;generalize ws.getD j (0,0)=p at *;obtain⟨p1,p2⟩:=p;simp only at k1 k2 k3 k4;generalize qq.num=qn at *;generalize (qq.den:Int)=qd at *;by_cases e1:qn=p1
  ·subst e1;by_cases e2:qd=p2
   ·subst e2;have hf:=nxt (by rw[b7];simp);clear fin nxt b7;go_wp2_with fail;go_quiet (fail)
    go_wp2_with fail;go_roundw;exact⟨j+1,Oo,Gg,below_drewN b0 _,hf⟩;exact Im
   obtain rfl:=fin (by rw[b7];simp;exact λh=>e2 h.symm);have x1:(qd == p2)=false:=by simpa using e2
   clear nxt b7;go_wp2_with fail;go_quiet (fail)
   go_wp2_with fail;go_ret;exact⟨rfl,bt K.o (below_drewN I _)⟩
  obtain rfl:=fin (by rw[b7];simp;exact λh=>absurd h.symm e1);have x1:(qn == p1)=false:=by simpa using e1
  clear nxt b7;go_wp2_with fail;go_quiet (fail)
  go_wp2_with fail;go_ret;exact⟨rfl,bt K.o (below_drewN I _)⟩
 obtain rfl:n=j:=Oo;have i4:¬((n:Int)<(n:Int)):=Oo;have hr:=F5.o H1.o H2.o H3.o O.o;have t5:=(o8.o.below b0).two;have k1:=t5.1;have k2:=t5.2.1;have z4:=qJ I c4;have z5:=qJ I c5;clear O t5;unfold rp at hr;generalize MX.num=qn at *;generalize (MX.den:Int)=qd at *;by_cases e1:qn=x0
 ·subst e1;by_cases e2:qd=y0
  ·subst e2;obtain rfl:res=true:=by rw[hr];simp
   clear hr;go_wp2_with fail;go_ret;exact⟨rfl,bt K.o I⟩
  obtain rfl:res=false:=by rw[hr];simp;exact λh=>e2 h.symm
  have x1:(qd == y0)=false:=by simpa using e2
  clear hr;go_wp2_with fail;go_ret;exact⟨rfl,bt K.o I⟩
 obtain rfl:res=false:=by rw[hr];simp;exact λh=>absurd h.symm e1
 have x1:(qn == x0)=false:=by simpa using e1
 clear hr;go_wp2_with fail;go_ret;exact⟨rfl,bt K.o I⟩
end Go.Proofs.YtcnfapnfmnolbaaGreat
