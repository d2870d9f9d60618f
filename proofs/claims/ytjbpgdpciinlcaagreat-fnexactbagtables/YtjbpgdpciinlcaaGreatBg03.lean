import Derived.BigQuiet
import Derived.Deep.QuietTactic
import Derived.Deep.RegionWith
import Derived.Handy
import Derived.WalkLawsBesides
import Derived.WalkSpells
import Derived.Test.YtjbpgdpciinlcaaGreatBg02
set_option maxHeartbeats 40000000
set_option maxRecDepth 1000000
namespace Go.Proofs.YtjbpgdpciinlcaaGreat
open Go.RowKit
variable {a b:Int}{B C:Nat}{o p:Obj}{q:Rat}{w w':World}
theorem hid{p:Prop}(h:p):Hid p:=h
theorem qO{k:IntKind}(h:a=b):Ending.returned (.int k a)=.returned (.int k b):=by rw[h]
theorem qBJ(a b:Int)(w:World)(ha:-9000000000000000000<=a)(ha':a<=9000000000000000000)(hb:-9000000000000000000<=b)(hb':b<=9000000000000000000):
 Cl 150 #[.int .i64 a,.int .i64 b] w fun e w'=>e=.returned (.int .i64 (Int.gcd a b))/\Bl w w':=by
 go_enter Tryz.func150,Tryz.ntmps150
 go_wp2;go_loopw [0,1] (fun x y wr=>∃x' y':Int,x=.int .i64 x'/\y=.int .i64 y'/\-9000000000000000000<=x'/\x'<=9000000000000000000/\-9000000000000000000<=y'/\y'<=9000000000000000000/\Hid (Int.gcd x' y'=Int.gcd a b)/\Bl w wr) (fun _ y _=>(intOf y).natAbs)
 case atStart=>exact⟨a,b,rfl,rfl,ha,ha',hb,hb',hid rfl,bI _ _⟩
 case round=>
  obtain⟨x,y,rfl,rfl,hx,hx',hy,hy',hg,hbel⟩:=hrel;by_cases h0:y=0
  ·subst h0;have hz:=RatM.gcd_zero x;rw[hg.out]at hz;clear hg;have HZ:=hid hz;clear hz;go_wp2
   all_goals
    go_ret
    exact⟨qO (by rw[HZ.out];omega),hbel⟩
  ·have hne:(y == 0)=false:=by simpa using h0
   have hlt:=RatM.natAbs_tmod_lt x y h0;have hs:=hid ((RatM.gcd_step x y).trans hg.out);go_wp2;go_quiet (fail)
   go_roundw
   case rel=>(repeat apply Exists.intro);exact⟨⟨y,x.tmod y,rfl,rfl,hy,hy',by omega,by omega,hs,below_drewN hbel _⟩,rfl⟩
   case measure=>simpa[intOf]using hlt
theorem UW(a b g:Int)(w:World)(ha:-9000000000000000000<=a)(ha':a<=9000000000000000000)(hb:-9000000000000000000<=b)(hb':b<=9000000000000000000)(hg:(Int.gcd a b:Int)=g):
 Cl 150 #[.int .i64 a,.int .i64 b] w fun e w'=>e=.returned (.int .i64 g)/\Bl w w':=by
 subst hg;exact qBJ a b w ha ha' hb hb'
theorem zX{W w1:World}(hb:Bl W w1):(∀b o,b < W.heap.size->w1.cell? ⟨b,o,none⟩=W.cell? ⟨b,o,none⟩)/\(∀b o,b < W.heap.size->w1.frozen? ⟨b,o,none⟩=W.frozen? ⟨b,o,none⟩):=
 ⟨fun b o h=>hb.cell (p:=⟨b,o,none⟩) h,fun b o h=>hb.frozen (p:=⟨b,o,none⟩) h⟩
theorem below_alloc1(hb:Below (w.alloc o).heap.size (w.alloc o) w'):Bl w w':=
 ((bI _ _).alloc (nR _) _).trans (hb.mono (by simp))
theorem QN(n g:Int)(hn:-9000000000000000000<=n)(hn':n<=9000000000000000000):-9000000000000000000<=n.tdiv g/\n.tdiv g<=9000000000000000000:=by
 have:=RatM.tdiv_abs_le n g;omega
theorem xX(n d:Int)(w:World)(hn:-9000000000000000000<=n)(hn':n<=9000000000000000000)(hd:-9000000000000000000<=d)(hd':d<=9000000000000000000)(h0:d≠0):
 Cl 151 #[.int .i64 n,.int .i64 d] w fun e w'=>e=.returned (.agg #[.int .i64 (RatM.frN n d),.int .i64 (RatM.frD n d)])/\Bl w w':=by
 have hg0:=RatM.gcd_pos n d h0;obtain⟨q1,q2⟩:=QN n (Int.gcd n d) hn hn';obtain⟨q3,q4⟩:=QN d (Int.gcd n d) hd hd';by_cases hlt:d < 0
 ·have e1:RatM.frN n d=-(n.tdiv (Int.gcd n d)):=by unfold RatM.frN;rw[if_pos hlt,Int.neg_tdiv]
  have e2:RatM.frD n d=-(d.tdiv (Int.gcd n d)):=by unfold RatM.frD;rw[if_pos hlt,Int.neg_tdiv]
  rw[e1,e2];clear e1 e2;have HG:Hid ((Int.gcd (-n) (-d):Int)=(Int.gcd n d:Int)):=by rw[RatM.gcd_neg_neg];exact rfl
  generalize (Int.gcd n d:Int)=g at *;have hne:(g == 0)=false:=by simp;omega
  go_enter Tryz.func151,Tryz.ntmps151
  go_wp2_with fail
  refine(UW (-n) (-d) g _ (by omega) (by omega) (by omega) (by omega) HG.out).mono ?_;rintro e w' ⟨rfl,hb⟩;obtain⟨hc,hf⟩:=zX hb;have c0:w'.cell? ⟨w.heap.size,0,none⟩=some (.int .i64 0):=(hc _ 0 (by simp)).trans (by simp[go_sem]);have c1:w'.cell? ⟨w.heap.size,1,none⟩=some (.int .i64 0):=(hc _ 1 (by simp)).trans (by simp[go_sem]);have hz:=hb.size;simp at hz;go_wp2_with fail
  go_region
  go_wp2;refine bodyPost_ret (v:=.agg #[.int .i64 _,.int .i64 _]) (by simp[results,Tryz.results151,go_sem,c0,c1];exact⟨rfl,rfl⟩) rfl ?_;exact⟨rfl,((((below_alloc1 hb).setCell (nR _) _).setCell (nR _) _)).drew⟩
 ·have e1:RatM.frN n d=n.tdiv (Int.gcd n d):=by unfold RatM.frN;rw[if_neg hlt]
  have e2:RatM.frD n d=d.tdiv (Int.gcd n d):=by unfold RatM.frD;rw[if_neg hlt]
  rw[e1,e2];clear e1 e2;obtain⟨g,hgg⟩:∃g:Int,(Int.gcd n d:Int)=g:=⟨_,rfl⟩;rw[hgg]at hg0 q1 q2 q3 q4 ⊢;have HG:=hid hgg;clear hgg;have hne:(g == 0)=false:=by simp;omega
  go_enter Tryz.func151,Tryz.ntmps151
  go_wp2_with fail
  refine(UW n d g _ (by omega) (by omega) (by omega) (by omega) HG.out).mono ?_;rintro e w' ⟨rfl,hb⟩;obtain⟨hc,hf⟩:=zX hb;have c0:w'.cell? ⟨w.heap.size,0,none⟩=some (.int .i64 0):=(hc _ 0 (by simp)).trans (by simp[go_sem]);have c1:w'.cell? ⟨w.heap.size,1,none⟩=some (.int .i64 0):=(hc _ 1 (by simp)).trans (by simp[go_sem]);have hz:=hb.size;simp at hz;go_wp2_with fail
  go_region
  go_wp2;refine bodyPost_ret (v:=.agg #[.int .i64 _,.int .i64 _]) (by simp[results,Tryz.results151,go_sem,c0,c1];exact⟨rfl,rfl⟩) rfl ?_;exact⟨rfl,((((below_alloc1 hb).setCell (nR _) _).setCell (nR _) _)).drew⟩
theorem qAI(n:Int)(w:World)(h1:-1000000<=n)(h2:n<=1000000):
 Cl 140 #[.int .i64 n] w fun e w'=>e=.returned (.bool true)/\w'=w:=by
 go_enter Tryz.func140,Tryz.ntmps140
 go_wp2;go_ret;exact⟨rfl,rfl⟩
theorem YJ(n d:Int)(w:World)(h1:-1000000<=n)(h2:n<=1000000)(h3:-1000000<=d)(h4:d<=1000000):
 Cl 115 #[.agg #[.int .i64 n,.int .i64 d]] w fun e w'=>e=.returned (.agg #[.int .i64 n,.int .i64 d])/\Bl w w':=by
 go_enter Tryz.func115,Tryz.ntmps115
 go_wp2;refine bodyPost_ret (v:=.agg #[.int .i64 n,.int .i64 d]) (by simp[results,Tryz.results115,go_sem]) rfl ⟨rfl,?_⟩;go_grown
theorem um(n:Int)(w:World)(h1:-9000000000000000000<=n)(h2:n<=9000000000000000000):
 Cl 193 #[.int .i64 n] w fun e w'=>e=.returned (.int .i64 n.natAbs)/\w'=w:=by
 by_cases h:n < 0
 ·go_enter Tryz.func193,Tryz.ntmps193
  go_wp2;go_ret;exact⟨qO (by omega),rfl⟩
 ·go_enter Tryz.func193,Tryz.ntmps193
  go_wp2;go_ret;exact⟨qO (by omega),rfl⟩
theorem Zu:∀(k:Nat) (a b:Int) (w:World),b.natAbs < k->0<=a->a<=9000000000000000000->0<=b->b<=9000000000000000000->
 Cl 192 #[.int .i64 a,.int .i64 b] w fun e w'=>e=.returned (.int .i64 (Int.gcd a b))/\w'=w
 |0,_,_,_,h,_,_,_,_=>absurd h (by omega)
 |k+1,a,b,w,hk,ha,ha',hb,hb'=>by
  by_cases h:b=0
  ·subst h;have hz:=hid (RatM.gcd_zero a);go_enter Tryz.func192,Tryz.ntmps192
   go_wp2;go_ret;exact⟨qO (by rw[hz.out];omega),rfl⟩
  ·have hne:(b == 0)=false:=by simpa using h
   have hm:a.tmod b=a % b:=Int.tmod_eq_emod_of_nonneg ha;have hlt:=RatM.natAbs_tmod_lt a b h;have hs:=RatM.gcd_step a b;have hnn:0<=a.tmod b:=Int.tmod_nonneg _ ha;rw[hm]at hlt hs hnn;clear hm;have HS:=hid hs;clear hs;have IH:=hid (Zu k b (a % b) w (by omega) hb hb' hnn (by omega));go_enter Tryz.func192,Tryz.ntmps192
   go_wp2_with fail
   refine IH.out.mono ?_;rintro e w' ⟨rfl,rfl⟩;go_wp2;go_ret;exact⟨qO (by rw[HS.out]),rfl⟩
theorem J2(a b g:Int)(w:World)(ha:0<=a)(ha':a<=9000000000000000000)(hb:0<=b)(hb':b<=9000000000000000000)(hg:(Int.gcd a b:Int)=g):
 Cl 192 #[.int .i64 a,.int .i64 b] w fun e w'=>e=.returned (.int .i64 g)/\w'=w:=by
 subst hg;exact Zu (b.natAbs+1) a b w (by omega) ha ha' hb hb'
theorem yg(n d:Int)(w:World)(hn:-9000000000000000000<=n)(hn':n<=9000000000000000000)(hd:-9000000000000000000<=d)(hd':d<=9000000000000000000)(h0:d≠0):
 Cl 166 #[.int .i64 n,.int .i64 d] w fun e w'=>e=.returned (.agg #[.int .i64 (RatM.frN n d),.int .i64 (RatM.frD n d)])/\Bl w w':=by
 have hg0:=RatM.gcd_pos n d h0;have hg1:=RatM.gcd_le n d h0;obtain⟨q1,q2⟩:=QN n (Int.gcd n d) hn hn';obtain⟨q3,q4⟩:=QN d (Int.gcd n d) hd hd';have HG:Hid ((Int.gcd (n.natAbs:Int) (d.natAbs:Int):Int)=(Int.gcd n d:Int)):=by rw[RatM.gcd_abs];exact rfl
 by_cases hlt:d < 0
 ·have e1:RatM.frN n d=-(n.tdiv (Int.gcd n d)):=by unfold RatM.frN;rw[if_pos hlt,Int.neg_tdiv]
  have e2:RatM.frD n d=-(d.tdiv (Int.gcd n d)):=by unfold RatM.frD;rw[if_pos hlt,Int.neg_tdiv]
  rw[e1,e2];clear e1 e2;generalize (Int.gcd n d:Int)=g at *;have hne:(g == 0)=false:=by simp;omega
  have hne':(-g == 0)=false:=by simp;omega
  go_enter Tryz.func166,Tryz.ntmps166
  go_wp2_with fail
  refine(um n _ hn hn').mono ?_;rintro e w1 ⟨rfl,rfl⟩;go_wp2_with fail
  refine(um d _ hd hd').mono ?_;rintro e w1 ⟨rfl,rfl⟩;go_wp2_with fail
  refine(J2 _ _ g _ (by omega) (by omega) (by omega) (by omega) HG.out).mono ?_;rintro e w1 ⟨rfl,rfl⟩;go_wp2;go_region
  go_wp2;refine bodyPost_ret (v:=.agg #[.int .i64 _,.int .i64 _]) (by simp[results,Tryz.results166,go_sem]) rfl ⟨rfl,?_⟩;go_grown
 ·have e1:RatM.frN n d=n.tdiv (Int.gcd n d):=by unfold RatM.frN;rw[if_neg hlt]
  have e2:RatM.frD n d=d.tdiv (Int.gcd n d):=by unfold RatM.frD;rw[if_neg hlt]
  rw[e1,e2];clear e1 e2;generalize (Int.gcd n d:Int)=g at *;have hne:(g == 0)=false:=by simp;omega
  have hne':(-g == 0)=false:=by simp;omega
  go_enter Tryz.func166,Tryz.ntmps166
  go_wp2_with fail
  refine(um n _ hn hn').mono ?_;rintro e w1 ⟨rfl,rfl⟩;go_wp2_with fail
  refine(um d _ hd hd').mono ?_;rintro e w1 ⟨rfl,rfl⟩;go_wp2_with fail
  refine(J2 _ _ g _ (by omega) (by omega) (by omega) (by omega) HG.out).mono ?_;rintro e w1 ⟨rfl,rfl⟩;go_wp2;go_region
  go_wp2;refine bodyPost_ret (v:=.agg #[.int .i64 _,.int .i64 _]) (by simp[results,Tryz.results166,go_sem]) rfl ⟨rfl,?_⟩;go_grown
theorem qz(x lo hi:Int)(w:World)(h1:lo<=x)(h2:x<=hi):
 Cl 66 #[.int .i64 x,.int .i64 lo,.int .i64 hi] w fun e w'=>e=.returned (.bool true)/\w'=w:=by
 go_enter Tryz.func66,Tryz.ntmps66
 go_wp2;go_ret;exact⟨rfl,rfl⟩
theorem Zv(n d:Int)(w:World):
 Cl 37 #[.agg #[.int .i64 n,.int .i64 d],.agg #[.int .i64 n,.int .i64 d]] w fun e w'=>e=.returned (.bool true)/\Bl w w':=by
 have hn:(n != n)=false:=by simp
 have hd:(d != d)=false:=by simp
 go_enter Tryz.func37,Tryz.ntmps37
 go_wp2;go_ret;exact⟨rfl,by go_grown⟩
theorem bt{a b c:World}(h:Bl a b)(k:Bl b c):Bl a c:=h.trans (k.mono h.size)
def OkR(n d:Int):Prop:=1<=d/\d<=1000000/\-1000000<=n/\n<=1000000/\Int.gcd n d=1
theorem uq(n d:Int)(w:World)(h:OkR n d):
 Cl 121 #[.agg #[.int .i64 n,.int .i64 d]] w fun e w'=>e=.returned (.bool true)/\Bl w w':=by
 obtain⟨h1,h2,h3,h4,h5⟩:=h;have HG:Hid ((Int.gcd n d:Int)=1):=by rw[h5];exact rfl
 clear h5;go_enter Tryz.func121,Tryz.ntmps121
 go_wp2_with (first|(go_at_call 140;refine(qAI _ _ (by assumption) (by assumption)).mono ?_;rintro e w' ⟨rfl,rfl⟩)|(go_at_call 150;refine(UW n d 1 _ (by omega) (by omega) (by omega) (by omega) HG.out).mono ?_;rintro e w' ⟨rfl,hb⟩))
 go_ret;exact⟨rfl,below_alloc1 hb⟩
theorem yD(x lo hi:Int)(w:World)(h1:x < lo):
 Cl 66 #[.int .i64 x,.int .i64 lo,.int .i64 hi] w fun e w'=>e=.returned (.bool false)/\w'=w:=by
 have hd:decide (lo<=x)=false:=by simp;omega
 go_enter Tryz.func66,Tryz.ntmps66
 go_wp2;go_ret;exact⟨rfl,rfl⟩
theorem yE(x lo hi:Int)(w:World)(h1:lo<=x)(h2:hi < x):
 Cl 66 #[.int .i64 x,.int .i64 lo,.int .i64 hi] w fun e w'=>e=.returned (.bool false)/\w'=w:=by
 have hd:decide (x<=hi)=false:=by simp;omega
 go_enter Tryz.func66,Tryz.ntmps66
 go_wp2;go_ret;exact⟨rfl,rfl⟩
theorem qEQ(a b B C:Int)(h1:-B<=a)(h2:a<=B)(h3:-C<=b)(h4:b<=C):-(B*C)<=a*b/\a*b<=B*C:=by
 have e:(a*b).natAbs=a.natAbs*b.natAbs:=Int.natAbs_mul a b;have h5:a.natAbs*b.natAbs<=B.natAbs*C.natAbs:=Nat.mul_le_mul (by omega) (by omega)
 have h6:B*C=((B.natAbs*C.natAbs:Nat):Int):=by
  rw[Int.natCast_mul,show(B.natAbs:Int)=B by omega,show(C.natAbs:Int)=C by omega]
 omega
theorem Xg(a b:Int)(h1:-1000000<=a)(h2:a<=1000000)(h3:-1000000<=b)(h4:b<=1000000):-1000000000000<=a*b/\a*b<=1000000000000:=
 qEQ a b 1000000 1000000 h1 h2 h3 h4
theorem below_alloc3{q:Obj}(hb:Below (((w.alloc o).alloc p).alloc q).heap.size (((w.alloc o).alloc p).alloc q) w'):Bl w w':=
 ((((bI _ _).alloc (nR _) _).alloc (by simp) _).alloc (by simp;omega) _).trans (hb.mono (by simp;omega))
theorem below_alloc2(hb:Below ((w.alloc o).alloc p).heap.size ((w.alloc o).alloc p) w'):Bl w w':=
 (((bI _ _).alloc (nR _) _).alloc (by simp) _).trans (hb.mono (by simp;omega))
theorem Zw(a b c d:Int)(w:World)(m1:-4500000000000000000<=a*d)(m1':a*d<=4500000000000000000)(m2:-4500000000000000000<=c*b)(m2':c*b<=4500000000000000000)(m3:-4500000000000000000<=b*d)(m3':b*d<=4500000000000000000)(h0:b*d≠0):
 Cl 149 #[.agg #[.int .i64 a,.int .i64 b],.agg #[.int .i64 c,.int .i64 d]] w fun e w'=>e=.returned (.agg #[.int .i64 (RatM.frN (a*d+c*b) (b*d)),.int .i64 (RatM.frD (a*d+c*b) (b*d))])/\Bl w w':=by
 go_enter Tryz.func149,Tryz.ntmps149
 go_wp2_with fail
 refine(xX _ _ _ (by omega) (by omega) (by omega) (by omega) h0).mono ?_;rintro e w1 ⟨rfl,hb⟩;obtain⟨hc,hf⟩:=zX hb;have c0:w1.cell? ⟨w.heap.size+1+1,0,none⟩=some (.int .i64 0):=(hc _ 0 (by simp)).trans (by simp[go_sem]);have c1:w1.cell? ⟨w.heap.size+1+1,1,none⟩=some (.int .i64 0):=(hc _ 1 (by simp)).trans (by simp[go_sem]);go_wp2;refine bodyPost_ret (v:=.agg #[.int .i64 _,.int .i64 _]) (by simp[results,Tryz.results149,go_sem,c0,c1]) rfl ⟨rfl,?_⟩;exact((below_alloc3 hb).setCell (by simp;omega) _).setCell (by simp;omega) _
theorem JO(a b c d:Int)(w:World)(m1:-4500000000000000000<=a*d)(m1':a*d<=4500000000000000000)(m2:-4500000000000000000<=c*b)(m2':c*b<=4500000000000000000)(m3:-4500000000000000000<=b*d)(m3':b*d<=4500000000000000000)(h0:b*d≠0):
 Cl 135 #[.agg #[.int .i64 a,.int .i64 b],.agg #[.int .i64 c,.int .i64 d]] w fun e w'=>e=.returned (.agg #[.int .i64 (RatM.frN (a*d+c*b) (b*d)),.int .i64 (RatM.frD (a*d+c*b) (b*d))])/\Bl w w':=by
 go_enter Tryz.func135,Tryz.ntmps135
 go_wp2_with fail
 refine(yg _ _ _ (by omega) (by omega) (by omega) (by omega) h0).mono ?_;rintro e w1 ⟨rfl,hb⟩;obtain⟨hc,hf⟩:=zX hb;have c0:w1.cell? ⟨w.heap.size+1+1,0,none⟩=some (.int .i64 0):=(hc _ 0 (by simp)).trans (by simp[go_sem]);have c1:w1.cell? ⟨w.heap.size+1+1,1,none⟩=some (.int .i64 0):=(hc _ 1 (by simp)).trans (by simp[go_sem]);go_wp2;refine bodyPost_ret (v:=.agg #[.int .i64 _,.int .i64 _]) (by simp[results,Tryz.results135,go_sem,c0,c1]) rfl ⟨rfl,?_⟩;exact((below_alloc3 hb).setCell (by simp;omega) _).setCell (by simp;omega) _
theorem Qk(a b c d:Int)(w:World)(m1:-4500000000000000000<=a*d)(m1':a*d<=4500000000000000000)(m2:-4500000000000000000<=c*b)(m2':c*b<=4500000000000000000)(m3:-4500000000000000000<=b*d)(m3':b*d<=4500000000000000000)(h0:b*d≠0):
 Cl 122 #[.agg #[.int .i64 a,.int .i64 b],.agg #[.int .i64 c,.int .i64 d]] w fun e w'=>e=.returned (.agg #[.int .i64 (RatM.frN (a*d - c*b) (b*d)),.int .i64 (RatM.frD (a*d - c*b) (b*d))])/\Bl w w':=by
 go_enter Tryz.func122,Tryz.ntmps122
 go_wp2_with fail
 refine(xX _ _ _ (by omega) (by omega) (by omega) (by omega) h0).mono ?_;rintro e w1 ⟨rfl,hb⟩;obtain⟨hc,hf⟩:=zX hb;have c0:w1.cell? ⟨w.heap.size+1+1,0,none⟩=some (.int .i64 0):=(hc _ 0 (by simp)).trans (by simp[go_sem]);have c1:w1.cell? ⟨w.heap.size+1+1,1,none⟩=some (.int .i64 0):=(hc _ 1 (by simp)).trans (by simp[go_sem]);go_wp2;refine bodyPost_ret (v:=.agg #[.int .i64 _,.int .i64 _]) (by simp[results,Tryz.results122,go_sem,c0,c1]) rfl ⟨rfl,?_⟩;exact((below_alloc3 hb).setCell (by simp;omega) _).setCell (by simp;omega) _
theorem UX(a b c d:Int)(w:World)(m1:-4500000000000000000<=a*d)(m1':a*d<=4500000000000000000)(m2:-4500000000000000000<=c*b)(m2':c*b<=4500000000000000000)(m3:-4500000000000000000<=b*d)(m3':b*d<=4500000000000000000)(h0:b*d≠0):
 Cl 169 #[.agg #[.int .i64 a,.int .i64 b],.agg #[.int .i64 c,.int .i64 d]] w fun e w'=>e=.returned (.agg #[.int .i64 (RatM.frN (a*d - c*b) (b*d)),.int .i64 (RatM.frD (a*d - c*b) (b*d))])/\Bl w w':=by
 go_enter Tryz.func169,Tryz.ntmps169
 go_wp2_with fail
 refine(yg _ _ _ (by omega) (by omega) (by omega) (by omega) h0).mono ?_;rintro e w1 ⟨rfl,hb⟩;obtain⟨hc,hf⟩:=zX hb;have c0:w1.cell? ⟨w.heap.size+1+1,0,none⟩=some (.int .i64 0):=(hc _ 0 (by simp)).trans (by simp[go_sem]);have c1:w1.cell? ⟨w.heap.size+1+1,1,none⟩=some (.int .i64 0):=(hc _ 1 (by simp)).trans (by simp[go_sem]);go_wp2;refine bodyPost_ret (v:=.agg #[.int .i64 _,.int .i64 _]) (by simp[results,Tryz.results169,go_sem,c0,c1]) rfl ⟨rfl,?_⟩;exact((below_alloc3 hb).setCell (by simp;omega) _).setCell (by simp;omega) _
theorem JP(a b c d:Int)(w:World)(m1:-4500000000000000000<=a*c)(m1':a*c<=4500000000000000000)(m2:-4500000000000000000<=b*d)(m2':b*d<=4500000000000000000)(h0:b*d≠0):
 Cl 220 #[.agg #[.int .i64 a,.int .i64 b],.agg #[.int .i64 c,.int .i64 d]] w fun e w'=>e=.returned (.agg #[.int .i64 (RatM.frN (a*c) (b*d)),.int .i64 (RatM.frD (a*c) (b*d))])/\Bl w w':=by
 go_enter Tryz.func220,Tryz.ntmps220
 go_wp2_with fail
 refine(xX _ _ _ (by omega) (by omega) (by omega) (by omega) h0).mono ?_;rintro e w1 ⟨rfl,hb⟩;obtain⟨hc,hf⟩:=zX hb;have c0:w1.cell? ⟨w.heap.size+1+1,0,none⟩=some (.int .i64 0):=(hc _ 0 (by simp)).trans (by simp[go_sem]);have c1:w1.cell? ⟨w.heap.size+1+1,1,none⟩=some (.int .i64 0):=(hc _ 1 (by simp)).trans (by simp[go_sem]);go_wp2;refine bodyPost_ret (v:=.agg #[.int .i64 _,.int .i64 _]) (by simp[results,Tryz.results220,go_sem,c0,c1]) rfl ⟨rfl,?_⟩;exact((below_alloc3 hb).setCell (by simp;omega) _).setCell (by simp;omega) _
theorem UY(a b c d:Int)(w:World)(m1:-4500000000000000000<=a*c)(m1':a*c<=4500000000000000000)(m2:-4500000000000000000<=b*d)(m2':b*d<=4500000000000000000)(h0:b*d≠0):
 Cl 170 #[.agg #[.int .i64 a,.int .i64 b],.agg #[.int .i64 c,.int .i64 d]] w fun e w'=>e=.returned (.agg #[.int .i64 (RatM.frN (a*c) (b*d)),.int .i64 (RatM.frD (a*c) (b*d))])/\Bl w w':=by
 go_enter Tryz.func170,Tryz.ntmps170
 go_wp2_with fail
 refine(yg _ _ _ (by omega) (by omega) (by omega) (by omega) h0).mono ?_;rintro e w1 ⟨rfl,hb⟩;obtain⟨hc,hf⟩:=zX hb;have c0:w1.cell? ⟨w.heap.size+1+1,0,none⟩=some (.int .i64 0):=(hc _ 0 (by simp)).trans (by simp[go_sem]);have c1:w1.cell? ⟨w.heap.size+1+1,1,none⟩=some (.int .i64 0):=(hc _ 1 (by simp)).trans (by simp[go_sem]);go_wp2;refine bodyPost_ret (v:=.agg #[.int .i64 _,.int .i64 _]) (by simp[results,Tryz.results170,go_sem,c0,c1]) rfl ⟨rfl,?_⟩;exact((below_alloc3 hb).setCell (by simp;omega) _).setCell (by simp;omega) _
theorem qAJ(a b c d:Int)(w:World)(m1:-4500000000000000000<=a*d)(m1':a*d<=4500000000000000000)(m2:-4500000000000000000<=b*c)(m2':b*c<=4500000000000000000)(h0:b*c≠0):
 Cl 219 #[.agg #[.int .i64 a,.int .i64 b],.agg #[.int .i64 c,.int .i64 d]] w fun e w'=>e=.returned (.agg #[.int .i64 (RatM.frN (a*d) (b*c)),.int .i64 (RatM.frD (a*d) (b*c))])/\Bl w w':=by
 go_enter Tryz.func219,Tryz.ntmps219
 go_wp2_with fail
 refine(xX _ _ _ (by omega) (by omega) (by omega) (by omega) h0).mono ?_;rintro e w1 ⟨rfl,hb⟩;obtain⟨hc,hf⟩:=zX hb;have c0:w1.cell? ⟨w.heap.size+1+1,0,none⟩=some (.int .i64 0):=(hc _ 0 (by simp)).trans (by simp[go_sem]);have c1:w1.cell? ⟨w.heap.size+1+1,1,none⟩=some (.int .i64 0):=(hc _ 1 (by simp)).trans (by simp[go_sem]);go_wp2;refine bodyPost_ret (v:=.agg #[.int .i64 _,.int .i64 _]) (by simp[results,Tryz.results219,go_sem,c0,c1]) rfl ⟨rfl,?_⟩;exact((below_alloc3 hb).setCell (by simp;omega) _).setCell (by simp;omega) _
theorem JQ(a b c d:Int)(w:World)(m1:-4500000000000000000<=a*d)(m1':a*d<=4500000000000000000)(m2:-4500000000000000000<=b*c)(m2':b*c<=4500000000000000000)(h0:b*c≠0):
 Cl 168 #[.agg #[.int .i64 a,.int .i64 b],.agg #[.int .i64 c,.int .i64 d]] w fun e w'=>e=.returned (.agg #[.int .i64 (RatM.frN (a*d) (b*c)),.int .i64 (RatM.frD (a*d) (b*c))])/\Bl w w':=by
 go_enter Tryz.func168,Tryz.ntmps168
 go_wp2_with fail
 refine(yg _ _ _ (by omega) (by omega) (by omega) (by omega) h0).mono ?_;rintro e w1 ⟨rfl,hb⟩;obtain⟨hc,hf⟩:=zX hb;have c0:w1.cell? ⟨w.heap.size+1+1,0,none⟩=some (.int .i64 0):=(hc _ 0 (by simp)).trans (by simp[go_sem]);have c1:w1.cell? ⟨w.heap.size+1+1,1,none⟩=some (.int .i64 0):=(hc _ 1 (by simp)).trans (by simp[go_sem]);go_wp2;refine bodyPost_ret (v:=.agg #[.int .i64 _,.int .i64 _]) (by simp[results,Tryz.results168,go_sem,c0,c1]) rfl ⟨rfl,?_⟩;exact((below_alloc3 hb).setCell (by simp;omega) _).setCell (by simp;omega) _
theorem Zx(n d:Int)(w:World):
 Cl 123 #[.agg #[.int .i64 n,.int .i64 d]] w fun e w'=>e=.returned (.int .i64 (RatM.sgn n))/\Bl w w':=by
 go_enter Tryz.func123,Tryz.ntmps123
 go_wp2
 all_goals
  go_ret
  exact⟨qO (by unfold RatM.sgn;repeat' split;all_goals omega),by go_grown⟩
theorem JR(a b c d:Int)(w:World)(m1:-4500000000000000000<=a*d)(m1':a*d<=4500000000000000000)(m2:-4500000000000000000<=c*b)(m2':c*b<=4500000000000000000):
 Cl 91 #[.agg #[.int .i64 a,.int .i64 b],.agg #[.int .i64 c,.int .i64 d]] w fun e w'=>e=.returned (.bool (decide (a*d < c*b)))/\Bl w w':=by
 go_enter Tryz.func91,Tryz.ntmps91
 go_wp2;go_ret;exact⟨rfl,by go_grown⟩
theorem J3(a b c d:Int)(h:OkR a b)(h':OkR c d):
 (-1000000000000<=a*d/\a*d<=1000000000000)/\(-1000000000000<=c*b/\c*b<=1000000000000)/\(0 < b*d/\b*d<=1000000000000):=by
 obtain⟨h1,h2,h3,h4,_⟩:=h;obtain⟨k1,k2,k3,k4,_⟩:=h';exact⟨Xg a d h3 h4 (by omega) k2,Xg c b k3 k4 (by omega) h2,Int.mul_pos (by omega) (by omega),(Xg b d (by omega) h2 (by omega) k2).2⟩
theorem qER(n d:Int)(h0:0 < d):OkR (RatM.frN n d) (RatM.frD n d)↔(-1000000<=RatM.frN n d/\RatM.frN n d<=1000000/\-1000000<=RatM.frD n d/\RatM.frD n d<=1000000):=by
 have h1:=RatM.frD_pos n d (by omega);have h2:=RatM.fr_coprime n d (by omega);unfold OkR;omega
theorem qCU(a b c d:Int)(w:World)(h:OkR a b)(h':OkR c d)(hs:OkR (RatM.frN (a*d+c*b) (b*d)) (RatM.frD (a*d+c*b) (b*d))):
 Cl 120 #[.agg #[.int .i64 a,.int .i64 b],.agg #[.int .i64 c,.int .i64 d]] w fun e w'=>e=.returned (.agg #[.int .i64 (RatM.frN (a*d+c*b) (b*d)),.int .i64 (RatM.frD (a*d+c*b) (b*d))])/\Bl w w':=by
 obtain⟨⟨m1,m1'⟩,⟨m2,m2'⟩,m3,m3'⟩:=J3 a b c d h h';have H:=hid h;have H':=hid h';clear h h';rw[qER _ _ m3]at hs;obtain⟨x,hx⟩:∃x,x=RatM.frN (a*d+c*b) (b*d):=⟨_,rfl⟩;obtain⟨y,hy⟩:∃y,y=RatM.frD (a*d+c*b) (b*d):=⟨_,rfl⟩;rw[<-hx,<-hy]at hs;rw[<-hx,<-hy];obtain⟨p1,p2,p3,p4⟩:=hs
 have PL:Hid (∀w,Cl 149 #[.agg #[.int .i64 a,.int .i64 b],.agg #[.int .i64 c,.int .i64 d]] w fun e w'=>e=.returned (.agg #[.int .i64 x,.int .i64 y])/\Bl w w'):=by
  intro w;rw[hx,hy];exact Zw a b c d w (by omega) (by omega) (by omega) (by omega) (by omega) (by omega) (by omega)
 clear hx hy;go_enter Tryz.func120,Tryz.ntmps120
 go_wp2_with fail
 refine(uq a b _ H.out).mono ?_;rintro e w1 ⟨rfl,hb1⟩;obtain⟨hc1,hf1⟩:=zX hb1;have d0:w1.cell? ⟨w.heap.size+1,0,none⟩=some (.int .i64 c):=(hc1 _ 0 (by simp)).trans (by simp[go_sem]);have d1:w1.cell? ⟨w.heap.size+1,1,none⟩=some (.int .i64 d):=(hc1 _ 1 (by simp)).trans (by simp[go_sem]);clear hc1 hf1;go_wp2_with fail
 refine(uq c d _ H'.out).mono ?_;rintro e w2 ⟨rfl,hb2⟩;have hb3:=bt hb1 hb2;obtain⟨hc2,hf2⟩:=zX hb3;have d2:w2.cell? ⟨w.heap.size+1,0,none⟩=some (.int .i64 c):=(hc2 _ 0 (by simp)).trans (by simp[go_sem]);have d3:w2.cell? ⟨w.heap.size+1,1,none⟩=some (.int .i64 d):=(hc2 _ 1 (by simp)).trans (by simp[go_sem]);have d4:w2.cell? ⟨w.heap.size,0,none⟩=some (.int .i64 a):=(hc2 _ 0 (by simp;omega)).trans (by simp[go_sem]);have d5:w2.cell? ⟨w.heap.size,1,none⟩=some (.int .i64 b):=(hc2 _ 1 (by simp;omega)).trans (by simp[go_sem]);clear hc2 hf2;go_wp2_with fail
 refine(PL.out _).mono ?_;rintro e w4 ⟨rfl,hb4⟩;go_wp2_with fail
 refine(YJ x y _ p1 p2 p3 p4).mono ?_;rintro e wE ⟨rfl,hb5⟩;have hb:=bt (bt hb3 hb4) hb5;obtain⟨hc,hf⟩:=zX hb;have c0:wE.cell? ⟨w.heap.size+1+1,0,none⟩=some (.int .i64 0):=(hc _ 0 (by simp)).trans (by simp[go_sem]);have c1:wE.cell? ⟨w.heap.size+1+1,1,none⟩=some (.int .i64 0):=(hc _ 1 (by simp)).trans (by simp[go_sem]);go_wp2;refine bodyPost_ret (v:=.agg #[.int .i64 _,.int .i64 _]) (by simp[results,Tryz.results120,go_sem,c0,c1]) rfl ⟨rfl,?_⟩;exact((below_alloc3 hb).setCell (by simp;omega) _).setCell (by simp;omega) _
theorem Ql(n d:Int)(w:World):
 Cl 28 #[.agg #[.int .i64 n,.int .i64 d]] w fun e w'=>e=.returned (.agg #[.int .i64 n,.int .i64 d])/\Bl w w':=by
 go_enter Tryz.func28,Tryz.ntmps28
 go_wp2;refine bodyPost_ret (v:=.agg #[.int .i64 n,.int .i64 d]) (by simp[results,Tryz.results28,go_sem]) rfl ⟨rfl,?_⟩;go_grown
theorem UZ(a b c d:Int)(w:World)(h:OkR a b)(h':OkR c d):
 Cl 99 #[.agg #[.int .i64 a,.int .i64 b],.agg #[.int .i64 c,.int .i64 d]] w fun e w'=>e=.returned (.int .i64 (RatM.sgn (a*d - c*b)))/\Bl w w':=by
 obtain⟨⟨m1,m1'⟩,⟨m2,m2'⟩,m3,m3'⟩:=J3 a b c d h h';have H:=hid h;have H':=hid h';clear h h';obtain⟨x,hx⟩:∃x,x=RatM.frN (a*d - c*b) (b*d):=⟨_,rfl⟩;obtain⟨y,hy⟩:∃y,y=RatM.frD (a*d - c*b) (b*d):=⟨_,rfl⟩
 have PL:Hid (∀w,Cl 122 #[.agg #[.int .i64 a,.int .i64 b],.agg #[.int .i64 c,.int .i64 d]] w fun e w'=>e=.returned (.agg #[.int .i64 x,.int .i64 y])/\Bl w w'):=by
  intro w;rw[hx,hy];exact Qk a b c d w (by omega) (by omega) (by omega) (by omega) (by omega) (by omega) (by omega)
 have HR:=hid (RatM.sgn_congr x (a*d - c*b) (by rw[hx];exact RatM.frN_sign (a*d - c*b) (b*d) m3));clear hx hy;go_enter Tryz.func99,Tryz.ntmps99
 go_wp2_with fail
 refine(uq a b _ H.out).mono ?_;rintro e w1 ⟨rfl,hb1⟩;obtain⟨hc1,hf1⟩:=zX hb1;have d0:w1.cell? ⟨w.heap.size+1,0,none⟩=some (.int .i64 c):=(hc1 _ 0 (by simp)).trans (by simp[go_sem]);have d1:w1.cell? ⟨w.heap.size+1,1,none⟩=some (.int .i64 d):=(hc1 _ 1 (by simp)).trans (by simp[go_sem]);clear hc1 hf1;go_wp2_with fail
 refine(uq c d _ H'.out).mono ?_;rintro e w2 ⟨rfl,hb2⟩;have hb3:=bt hb1 hb2;obtain⟨hc2,hf2⟩:=zX hb3;have d2:w2.cell? ⟨w.heap.size+1,0,none⟩=some (.int .i64 c):=(hc2 _ 0 (by simp)).trans (by simp[go_sem]);have d3:w2.cell? ⟨w.heap.size+1,1,none⟩=some (.int .i64 d):=(hc2 _ 1 (by simp)).trans (by simp[go_sem]);have d4:w2.cell? ⟨w.heap.size,0,none⟩=some (.int .i64 a):=(hc2 _ 0 (by simp;omega)).trans (by simp[go_sem]);have d5:w2.cell? ⟨w.heap.size,1,none⟩=some (.int .i64 b):=(hc2 _ 1 (by simp;omega)).trans (by simp[go_sem]);clear hc2 hf2;go_wp2_with fail
 refine(PL.out _).mono ?_;rintro e w4 ⟨rfl,hb4⟩;go_wp2_with fail
 refine(Zx x y _).mono ?_;rintro e wE ⟨rfl,hb5⟩;go_wp2;go_ret;exact⟨qO HR.out,below_alloc2 (bt (bt hb3 hb4) hb5)⟩
def enc(q:Rat):Value:=.agg #[.int .i64 q.num,.int .i64 q.den]
theorem U3(b:Int)(g:Nat)(h:0<=b):b.tdiv (g:Int)=((b.natAbs / g:Nat):Int):=by
 have e:=Int.ofNat_tdiv b.natAbs g;rw[show((b.natAbs:Nat):Int)=b by omega]at e;rw[<-e]
theorem qAh(a b:Int)(h:b≠0):RatM.frN a b=(Rat.divInt a b).num/\RatM.frD a b=((Rat.divInt a b).den:Int):=by
 have hd:((Int.gcd a b:Nat):Int) ∣ a:=Int.gcd_dvd_left ..;have hg:=RatM.gcd_pos a b h;rw[Rat.num_divInt,Rat.den_divInt,if_neg h,Int.gcd_comm b a];unfold RatM.frN RatM.frD;by_cases hb:b < 0
 ·rw[if_pos hb,if_pos hb,Int.sign_eq_neg_one_of_neg hb];refine⟨?_,?_⟩
  ·rw[Int.tdiv_eq_ediv_of_dvd ((Int.dvd_neg).2 hd)];congr 1;omega
  ·rw[show -b=((b.natAbs:Nat):Int)by omega,Int.ofNat_tdiv]
 ·rw[if_neg hb,if_neg hb,Int.sign_eq_one_of_pos (by omega)];refine⟨?_,?_⟩
  ·rw[Int.tdiv_eq_ediv_of_dvd hd];congr 1;omega
  ·generalize Int.gcd a b=g;rw[U3 b g (by omega)]
theorem vK(a b:Int)(h:b≠0)(q:Rat)(hq:q=Rat.divInt a b):(.agg #[.int .i64 (RatM.frN a b),.int .i64 (RatM.frD a b)]:Value)=enc q:=by
 obtain⟨h1,h2⟩:=qAh a b h;unfold enc;rw[h1,h2,hq]
def Sm(B:Nat)(q:Rat):Prop:=q.num.natAbs<=B/\q.den<=B
theorem Sm.mono(h:Sm B q)(hBC:B<=C):Sm C q:=⟨by have:=h.1;omega,by have:=h.2;omega⟩
theorem zg(ha:a.natAbs<=B)(hb:b.natAbs<=C)(hBC:B*C<=4500000000000000000):-4500000000000000000<=a*b/\a*b<=4500000000000000000:=by
 have h1:(a*b).natAbs<=B*C:=by rw[Int.natAbs_mul];exact Nat.mul_le_mul ha hb
 omega
theorem zJ{D:Int}{Z:Nat}(h0:D≠0)(hD:D.natAbs<=B)(hz:Cov.Whole Z (q*D))(hZ:Z<=B):Sm B q:=by
 obtain⟨z,h1,h2⟩:=hz;have hden:((q.den:Nat):Int)≠0:=by have:=q.den_nz;omega
 have e:Rat.divInt q.num q.den=Rat.divInt z D:=by
  rw[Rat.num_divInt_den,Rat.divInt_eq_div]
  have:((D:Int):Rat)≠0:=by
   intro e;apply h0;have:=congrArg Rat.num e;simpa using this
  rw[<-h1];grind
 rw[Rat.divInt_eq_divInt_iff hden h0]at e;have hc:=q.reduced
 have hd1:q.den ∣ D.natAbs:=by
  have:q.den ∣ q.num.natAbs*D.natAbs:=by
   rw[<-Int.natAbs_mul,e,Int.natAbs_mul,Int.natAbs_natCast];exact Nat.dvd_mul_left _ _
  exact(Nat.Coprime.symm hc).dvd_of_dvd_mul_left this
 have hd2:q.num.natAbs ∣ z.natAbs:=by
  have:q.num.natAbs ∣ z.natAbs*q.den:=by
   have e2:=congrArg Int.natAbs e;rw[Int.natAbs_mul,Int.natAbs_mul,Int.natAbs_natCast]at e2;rw[<-e2];exact Nat.dvd_mul_right _ _
  exact hc.dvd_of_dvd_mul_right this
 refine⟨?_,?_⟩
 ·by_cases hz0:z=0
  ·rw[hz0,Int.zero_mul]at e;rcases Int.mul_eq_zero.1 e with e|e
   ·rw[e];simp
   ·exact absurd e h0
  ·have:=Nat.le_of_dvd (by omega) hd2;omega
 ·have:=Nat.le_of_dvd (by omega) hd1;omega
theorem Ki{p m d:Rat}(hne:d≠0)(h:m / d=p):p*d=m:=by grind
theorem XM(p:Rat):p*(((p.den:Nat):Int):Rat)=((p.num:Int):Rat):=by
 have h:=Rat.num_divInt_den p;rw[Rat.divInt_eq_div]at h
 have hne:(((p.den:Nat):Int):Rat)≠0:=by
  intro e;have:=congrArg Rat.num e;have h0:=p.den_nz;simp at this;omega
 exact Ki hne h
theorem Sm.mul{p:Rat}(hp:Sm B p)(hq:Sm C q):Sm (B*C) (p*q):=by
 refine zJ (D:=((p.den*q.den:Nat):Int)) (Z:=B*C) ?_ ?_ ⟨p.num*q.num,?_,?_⟩ (nR _)
 ·have h1:=p.den_nz;have h2:=q.den_nz;have:=Nat.mul_ne_zero h1 h2;omega
 ·rw[Int.natAbs_natCast];exact Nat.mul_le_mul hp.2 hq.2
 ·have e1:=XM p;have e2:=XM q;have e3:(((p.den*q.den:Nat):Int):Rat)=(((p.den:Nat):Int):Rat)*(((q.den:Nat):Int):Rat):=by rw[Int.natCast_mul];simp
  have e4:((p.num*q.num:Int):Rat)=((p.num:Int):Rat)*((q.num:Int):Rat):=by simp
  rw[e3,e4,<-e1,<-e2];grind
 ·rw[Int.natAbs_mul];exact Nat.mul_le_mul hp.1 hq.1
theorem zA(q:Rat):((q.den:Nat):Int).natAbs=q.den:=Int.natAbs_natCast _
theorem qEg(p q:Rat)(w:World)(hp:Sm B p)(hq:Sm C q)(h:B*C<=4500000000000000000):
 Cl 149 #[enc p,enc q] w fun e w'=>e=.returned (enc (p+q))/\Bl w w':=by
 have h1:=zg hp.1 (show((q.den:Nat):Int).natAbs<=C by rw[zA];exact hq.2) h;have h2:=zg (a:=q.num) (b:=(p.den:Int)) (B:=C) (C:=B) hq.1 (by rw[zA];exact hp.2) (by rw[Nat.mul_comm];exact h);have h3:=zg (a:=(p.den:Int)) (b:=(q.den:Int)) (B:=B) (C:=C) (by rw[zA];exact hp.2) (by rw[zA];exact hq.2) h;have hne:(p.den:Int)*(q.den:Int)≠0:=Int.mul_ne_zero (by have:=p.den_nz;omega) (by have:=q.den_nz;omega)
 rw[<-vK (p.num*q.den+q.num*p.den) (p.den*q.den) hne (p+q) (by
  rw[<-Rat.divInt_add_divInt _ _ (by have:=p.den_nz;omega) (by have:=q.den_nz;omega),Rat.num_divInt_den,Rat.num_divInt_den])]
 exact Zw p.num p.den q.num q.den w h1.1 h1.2 h2.1 h2.2 h3.1 h3.2 hne
theorem qDy(p q:Rat)(w:World)(hp:Sm B p)(hq:Sm C q)(h:B*C<=4500000000000000000):
 Cl 122 #[enc p,enc q] w fun e w'=>e=.returned (enc (p - q))/\Bl w w':=by
 have h1:=zg hp.1 (show((q.den:Nat):Int).natAbs<=C by rw[zA];exact hq.2) h;have h2:=zg (a:=q.num) (b:=(p.den:Int)) (B:=C) (C:=B) hq.1 (by rw[zA];exact hp.2) (by rw[Nat.mul_comm];exact h);have h3:=zg (a:=(p.den:Int)) (b:=(q.den:Int)) (B:=B) (C:=C) (by rw[zA];exact hp.2) (by rw[zA];exact hq.2) h;have hne:(p.den:Int)*(q.den:Int)≠0:=Int.mul_ne_zero (by have:=p.den_nz;omega) (by have:=q.den_nz;omega)
 rw[<-vK (p.num*q.den - q.num*p.den) (p.den*q.den) hne (p - q) (by
  rw[<-Rat.divInt_sub_divInt _ _ (by have:=p.den_nz;omega) (by have:=q.den_nz;omega),Rat.num_divInt_den,Rat.num_divInt_den])]
 exact Qk p.num p.den q.num q.den w h1.1 h1.2 h2.1 h2.2 h3.1 h3.2 hne
theorem qDz(p q:Rat)(w:World)(hp:Sm B p)(hq:Sm C q)(h:B*C<=4500000000000000000):
 Cl 220 #[enc p,enc q] w fun e w'=>e=.returned (enc (p*q))/\Bl w w':=by
 have h1:=zg hp.1 hq.1 h;have h3:=zg (a:=(p.den:Int)) (b:=(q.den:Int)) (B:=B) (C:=C) (by rw[zA];exact hp.2) (by rw[zA];exact hq.2) h;have hne:(p.den:Int)*(q.den:Int)≠0:=Int.mul_ne_zero (by have:=p.den_nz;omega) (by have:=q.den_nz;omega)
 rw[<-vK (p.num*q.num) (p.den*q.den) hne (p*q) (by
  rw[<-Rat.divInt_mul_divInt,Rat.num_divInt_den,Rat.num_divInt_den])]
 exact JP p.num p.den q.num q.den w h1.1 h1.2 h3.1 h3.2 hne
theorem kQ(h:q≠0):q.num≠0:=by
 intro e;exact h (Rat.num_eq_zero.1 e)
theorem qEW(p q:Rat)(w:World)(hp:Sm B p)(hq:Sm C q)(h:B*C<=4500000000000000000)(hq0:q≠0):
 Cl 219 #[enc p,enc q] w fun e w'=>e=.returned (enc (p / q))/\Bl w w':=by
 have h1:=zg hp.1 (show((q.den:Nat):Int).natAbs<=C by rw[zA];exact hq.2) h;have h3:=zg (a:=(p.den:Int)) (b:=q.num) (B:=B) (C:=C) (by rw[zA];exact hp.2) hq.1 h;have hne:(p.den:Int)*q.num≠0:=Int.mul_ne_zero (by have:=p.den_nz;omega) (kQ hq0)
 rw[<-vK (p.num*q.den) (p.den*q.num) hne (p / q) (by
  rw[<-Rat.divInt_mul_divInt,Rat.num_divInt_den,<-Rat.inv_divInt,Rat.num_divInt_den,Rat.div_def])]
 exact qAJ p.num p.den q.num q.den w h1.1 h1.2 h3.1 h3.2 hne
def sgR(q:Rat):Int:=if q < 0 then -1 else if 0 < q then 1 else 0
theorem qCw(q:Rat):RatM.sgn q.num=sgR q:=by
 have h1:q < 0↔q.num < 0:=by
  have:=Rat.num_nonneg (q:=q);constructor
  ·intro h;by_cases e:q.num < 0
   ·exact e
   ·have:=this.1 (by omega);grind
  ·intro h;by_cases e:q < 0
   ·exact e
   ·have:=this.2 (by grind);omega
 have h2:0 < q↔0 < q.num:=by
  have:=Rat.num_nonneg (q:=q);constructor
  ·intro h;have a:=this.2 (by grind);by_cases e:q.num=0
   ·rw[Rat.num_eq_zero.1 e]at h;grind
   ·omega
  ·intro h;have a:=this.1 (by omega);by_cases e:q=0
   ·rw[e]at h;simp at h
   ·grind
 unfold RatM.sgn sgR;by_cases e1:q < 0
 ·rw[if_pos e1,if_pos (h1.1 e1)]
 ·rw[if_neg e1,if_neg (fun h=>e1 (h1.2 h))];by_cases e2:0 < q
  ·rw[if_pos e2,if_pos (h2.1 e2)]
  ·rw[if_neg e2,if_neg (fun h=>e2 (h2.2 h))]
theorem ZW(q:Rat)(w:World):
 Cl 123 #[enc q] w fun e w'=>e=.returned (.int .i64 (sgR q))/\Bl w w':=by
 rw[<-qCw];exact Zx q.num q.den w
theorem yo(h:q < 0):sgR q=-1:=if_pos h
theorem yp(h:0 < q):sgR q=1:=by unfold sgR;rw[if_neg (by grind),if_pos h]
theorem yq(h:q=0):sgR q=0:=by unfold sgR;rw[if_neg (by grind),if_neg (by grind)]
theorem qCx(n:Int):enc (n:Rat)=.agg #[.int .i64 n,.int .i64 1]:=by
 unfold enc;simp
theorem qD0(f:Value)(a b n:Int)(hf:f=.agg #[.int .i64 a,.int .i64 b])(w:World):
 Cl 221 #[f,.int .i64 n] w fun e w'=>e=.returned (enc (n:Rat))/\Bl w w':=by
 subst hf;rw[qCx];go_enter Tryz.func221,Tryz.ntmps221
 go_wp2;refine bodyPost_ret (v:=.agg #[.int .i64 n,.int .i64 1]) (by simp[results,Tryz.results221,go_sem]) rfl ⟨rfl,?_⟩;go_grown
theorem ZX(p q:Rat)(w:World)(hp:Sm B p)(hq:Sm C q)(h:B*C<=4500000000000000000):
 Cl 122 #[.agg #[.int .i64 (p).num,.int .i64 (p).den],.agg #[.int .i64 (q).num,.int .i64 (q).den]] w fun e w'=>e=.returned (.agg #[.int .i64 (p - q).num,.int .i64 (p - q).den])/\Bl w w':=qDy p q w hp hq h
theorem qAi(p q:Rat)(w:World)(hp:Sm B p)(hq:Sm C q)(h:B*C<=4500000000000000000):
 Cl 220 #[.agg #[.int .i64 (p).num,.int .i64 (p).den],.agg #[.int .i64 (q).num,.int .i64 (q).den]] w fun e w'=>e=.returned (.agg #[.int .i64 (p*q).num,.int .i64 (p*q).den])/\Bl w w':=qDz p q w hp hq h
theorem Kj(p q:Rat)(w:World)(hp:Sm B p)(hq:Sm C q)(h:B*C<=4500000000000000000)(hq0:q≠0):
 Cl 219 #[.agg #[.int .i64 (p).num,.int .i64 (p).den],.agg #[.int .i64 (q).num,.int .i64 (q).den]] w fun e w'=>e=.returned (.agg #[.int .i64 (p / q).num,.int .i64 (p / q).den])/\Bl w w':=qEW p q w hp hq h hq0
theorem vE(q:Rat)(w:World):
 Cl 123 #[.agg #[.int .i64 (q).num,.int .i64 (q).den]] w fun e w'=>e=.returned (.int .i64 (sgR q))/\Bl w w':=ZW q w
theorem qD1(a b n:Int)(w:World):
 Cl 221 #[.agg #[.int .i64 a,.int .i64 b],.int .i64 n] w fun e w'=>e=.returned (.agg #[.int .i64 (n:Rat).num,.int .i64 (n:Rat).den])/\Bl w w':=qD0 _ a b n rfl w
end Go.Proofs.YtjbpgdpciinlcaaGreat
